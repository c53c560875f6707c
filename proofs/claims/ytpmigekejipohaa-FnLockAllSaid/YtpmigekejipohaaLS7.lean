/-
  The model's LockRun.
-/
import Derived.Test.YtpmigekejipohaaLS6
import Derived.Test.YtpmigekejipohaaReg2
namespace Go.Proofs.Ytpmigekejipohaa
open Go.RowKit

theorem LM.foot {base : Nat} {w w' : World} {D : Lk} {g0 g1 c1 : Nat} (h : LM base w D g0 g1 c1) (hn : 0 < D.2.1.length) (hb : Below w.heap.size w w') : LM base w' D g0 g1 c1 :=
  ⟨h.row.frame fun b hm => hb.block b (by rw [List.mem_singleton] at hm; subst hm; exact ltM h.row hn), h.line.below hb, h.lo, h.ne⟩
/-- a lock of the call's own as it reads -/
theorem LM.ty {base : Nat} {w : World} {D : Lk} {g0 g1 c0 c1 : Nat} (h : LM base w D g0 g1 c1) (hn : 0 < D.2.1.length) (hs : D.2.1.length ≤ 4 ∧ D.2.2.length ≤ 4) : tyLock.R w w.heap.size [.int .i64 D.1, .slice (some ⟨g0, 0, none⟩) D.2.1.length c0, .slice (some ⟨g1, 0, none⟩) D.2.2.length c1] D :=
  tyLock_Rmk ⟨rfl, by simp only [maxLen]; omega, h.row.row fun b hm => by rw [List.mem_singleton] at hm; subst hm; exact ltM h.row hn⟩ ⟨rfl, by have := OwnE.cap h.line; simp only [maxLen]; omega, (OwnE.row h.line rfl).row fun b hm => by rw [List.mem_singleton] at hm; subst hm; exact (OwnE.lt h.line).2⟩
/-- behind k turns of the order -/
def RunRelL (w : World) (base N n : Nat) (D : Lk) (L : List Int) (g0 k0 k : Nat) (cnt : Value) (wr : World) : Prop :=
  ∃ (Dk : Lk) (cn : Int) (g1 c1 : Nat), cnt = .int .i64 cn ∧ runTo D L k = (Dk, cn) ∧ LM base wr Dk g0 g1 c1 ∧ Box wr N #[.int .i64 Dk.1, .slice (some ⟨g0, 0, none⟩) n k0, .slice (some ⟨g1, 0, none⟩) Dk.2.2.length c1] 28 ∧
    Box wr (w.heap.size + 1) #[.int .i64 0, .slice none 0 0, .slice none 0 0] 28 ∧ Below w.heap.size w wr ∧ g1 ≠ N
/-- what LockRun answers -/
def RnR (w : World) (cnt : Int) (D' : Lk) (e : Ending) (w' : World) : Prop :=
  ∃ y0 y1 y2 fp, e = .returned (.tuple #[.agg #[y0, y1, y2], .int .i64 cnt]) ∧ KM w D' y0 y1 y2 fp w'
set_option maxHeartbeats 8000000 in
set_option maxRecDepth 100000 in
theorem lockRun_any : KRun 33 := by
  intro w hi hi2 x0 x1 x2 D A0 m cc L h hs hro hlo hmo
  have HR0 := Lib.hid h
  obtain ⟨A, n, c, A2, n2, c2, hcs, ⟨hl, hl1, hl2⟩, hl3⟩ := tyLock_R h
  simp only [List.cons.injEq, and_true] at hcs
  obtain ⟨rfl, rfl, rfl⟩ := hcs
  clear hl1 hl2 hl3
  have HSM := Lib.hid hs
  have HL := Lib.hid hl
  have HRO := Lib.hid hro
  have HLO := Lib.hid hlo
  obtain ⟨W, hW⟩ : ∃ W, D.1 = W := ⟨_, rfl⟩
  have HW := Lib.hid hW
  rw [hW] at HR0 ⊢
  have X1 := Lib.hid ((Box.new w #[.int .i64 W, .slice A n c, .slice A2 n2 c2] 28).alloc (.cells #[.int .i64 0, .slice none 0 0, .slice none 0 0] 28))
  have Z1 := Lib.hid (Box.new (w.alloc (.cells #[.int .i64 W, .slice A n c, .slice A2 n2 c2] 28)) #[.int .i64 0, .slice none 0 0, .slice none 0 0] 28)
  simp only [World.size_alloc] at Z1
  have HB1 := Lib.hid (show Below w.heap.size w ((w.alloc (.cells #[.int .i64 W, .slice A n c, .slice A2 n2 c2] 28)).alloc (.cells #[.int .i64 0, .slice none 0 0, .slice none 0 0] 28)) from ((Below.refl _ _).alloc (Nat.le_refl _) _).alloc (by simp only [World.size_alloc]; omega) _)
  have HT1 := Lib.hid (Ty.below_w HR0.out HB1.out)
  obtain ⟨D', hD'⟩ : ∃ D', runL D L = D' := ⟨_, rfl⟩
  obtain ⟨rn, hrn⟩ : ∃ rn, runN D L = rn := ⟨_, rfl⟩
  rw [hD', hrn]
  suffices hsuf : Calls Try.prog 33 #[.agg #[.int .i64 W, .slice A n c, .slice A2 n2 c2], .slice A0 m cc] w (RnR w rn D') from hsuf
  have HD := Lib.hid hD'
  have HN := Lib.hid hrn
  clear h hl hs hW hD' hrn hro hlo
  obtain ⟨a, ha⟩ : ∃ a, lkB D = a := ⟨_, rfl⟩
  have HA := Lib.hid ha
  clear ha
  go_enter Try.func33, Try.ntmps33
  go_wp2_with fail
  generalize ((w.alloc (.cells #[.int .i64 W, .slice A n c, .slice A2 n2 c2] 28)).alloc (.cells #[.int .i64 0, .slice none 0 0, .slice none 0 0] 28)) = W0 at X1 Z1 HB1 HT1 ⊢
  refine (lockOk_any HT1.out).mono ?_
  rw [HA.out]
  rintro e w1 ⟨rfl, hb1⟩
  have HB2 := Lib.hid (HB1.out.trans (hb1.mono HB1.out.size))
  have Z2 := Lib.hid (Z1.out.below hb1 Z1.out.lt)
  have X2 := Lib.hid (X1.out.below hb1 X1.out.lt)
  have HT2 := Lib.hid (Ty.below_w HT1.out hb1)
  clear hb1 X1 Z1 HT1 HB1
  have p0 := X2.out.cell 0
  have p1 := X2.out.cell 1
  have p2 := X2.out.cell 2
  have pl := X2.out.lt
  have z0 := Z2.out.cell 0
  have z1 := Z2.out.cell 1
  have z2 := Z2.out.cell 2
  have y0 := Z2.out.frz 0
  have y1 := Z2.out.frz 1
  have y2 := Z2.out.frz 2
  have zl := Z2.out.lt
  simp at p0 p1 p2 z0 z1 z2
  cases a
  · obtain rfl : rn = -1 := by rw [← HN.out]; unfold runN; rw [HA.out]; rfl
    obtain rfl : D' = lkZ := by rw [← HD.out]; unfold runL; rw [HA.out]; rfl
    go_wp2_with fail
    refine bodyPost_ret (v := .tuple #[.agg #[.int .i64 0, .slice none 0 0, .slice none 0 0], .int .i64 (-1)]) (by simp [results, Try.results33, go_sem, z0, z1, z2]) rfl ⟨_, _, _, [], rfl, KM.zero (bel3 HB2.out (by omega) _ _ _)⟩
  have HLK := Lib.hid (lk_iff.1 HA.out)
  have hn4 : n ≤ 4 := by have := HLK.out.n; rw [HL.out] at this; omega
  have hn1 : 1 ≤ n := by have := HLK.out.n; rw [HL.out] at this; omega
  clear z0 z1 z2 y0 y1 y2
  go_wp2_with fail
  refine (l12Copy_any HT2.out HSM.out).mono ?_
  rintro e w2 ⟨g0, g1, k0, k1, rfl, ho0, ho1, hne, hb4⟩
  rw [HW.out, HL.out]
  have HS2 := Lib.hid (show w.heap.size + 1 < w1.heap.size ∧ w1.heap.size + 2 ≤ w2.heap.size ∧ g0 < w2.heap.size from by have h1 := OwnE.lt ho1; have h0 := OwnE.lt ho0; omega)
  obtain ⟨n3, hn3⟩ : ∃ n3, D.2.2.length = n3 := ⟨_, rfl⟩
  have HREL := Lib.hid (show RunRelL w (w1.heap.size + 2) w2.heap.size n D L g0 k0 0 (.int .i64 0) (w2.alloc (.cells #[.int .i64 W, .slice (some ⟨g0, 0, none⟩) n k0, .slice (some ⟨g1, 0, none⟩) n3 k1] 28)) from by
    refine ⟨D, 0, g1, k1, rfl, rfl, LM.foot ⟨OwnE.row ho0 rfl, ho1, (OwnE.lt ho0).1, hne⟩ (by rw [HL.out]; omega) ((Below.refl _ _).alloc (Nat.le_refl _) _), ?_, (Z2.out.below hb4 Z2.out.lt).alloc _, (HB2.out.trans (hb4.mono HB2.out.size)).alloc (by have := HS2.out; omega) _, by have := (OwnE.lt ho1).2; omega⟩
    rw [HW.out, hn3]
    exact Box.new w2 _ _)
  rw [hn3]
  clear hn3 ho0 ho1 hne hb4 X2 Z2 HT2 HB2 p0 p1 p2 pl zl
  go_wp2_with fail
  generalize w2.alloc (.cells #[.int .i64 W, .slice (some ⟨g0, 0, none⟩) n k0, .slice (some ⟨g1, 0, none⟩) n3 k1] 28) = W3 at HREL ⊢
  generalize w2.heap.size = N at HREL HS2 ⊢
  go_loopw [7, 8] (fun cnt i wr => ∃ k : Nat, k ≤ m ∧ i = .int .i64 k ∧ RunRelL w (w1.heap.size + 2) N n D L g0 k0 k cnt wr) (fun _ i _ => m - (intOf i).toNat)
  case atStart => exact ⟨0, Nat.zero_le _, rfl, HREL.out⟩
  case round =>
    obtain ⟨k, hk, rfl, Dk, cn, gL, cL, rfl, hrun, hlm, hX, hZ, hB, hgN⟩ := hrel
    have HRUN := Lib.hid hrun
    have HLM := Lib.hid hlm
    have HX := Lib.hid hX
    have HZ := Lib.hid hZ
    have HB := Lib.hid hB
    have HOK := Lib.hid (show LOk Dk ∧ Dk.2.1.length = n ∧ 0 ≤ cn ∧ cn ≤ k from by
      have h := run_ok (L := L) HLK.out (k := k)
      rw [hrun] at h
      rw [HL.out] at h
      exact h)
    have HSO := Lib.hid (small_ok HOK.out.1)
    have hcn := HOK.out.2.2
    clear hrun hlm hX hZ hB HREL
    obtain ⟨Wk, hWk⟩ : ∃ Wk, Dk.1 = Wk := ⟨_, rfl⟩
    obtain ⟨nk, hnk⟩ : ∃ nk, Dk.2.2.length = nk := ⟨_, rfl⟩
    have HWK := Lib.hid hWk
    have HNK := Lib.hid hnk
    rw [hWk, hnk] at HX
    clear hWk hnk
    have p0 := HX.out.cell 0
    have p1 := HX.out.cell 1
    have p2 := HX.out.cell 2
    have f0 := HX.out.frz 0
    have f1 := HX.out.frz 1
    have f2 := HX.out.frz 2
    have pl := HX.out.lt
    have z0 := HZ.out.cell 0
    have z1 := HZ.out.cell 1
    have z2 := HZ.out.cell 2
    have y0 := HZ.out.frz 0
    have y1 := HZ.out.frz 1
    have y2 := HZ.out.frz 2
    have zl := HZ.out.lt
    simp at p0 p1 p2 z0 z1 z2
    have hmo' : m ≤ 1048576 := hmo
    by_cases hlt : k < m
    · obtain ⟨b, o, rfl, _, hb0, hcc⟩ := HRO.out (by omega)
      have hk1 : (k : Int) < m := by omega
      have hk2 : (0 : Int) ≤ k := by omega
      have hb3 : b < wr.heap.size := Nat.lt_of_lt_of_le hb0 HB.out.size
      have ox : wr.cell? ⟨b, o + k, none⟩ = some (.int .i64 (L.getD k 0)) := by
        have h := hcc k hlt 0 (by decide)
        rw [show o + k * elI.K + 0 = o + k from by show o + k * 1 + 0 = o + k; omega] at h
        exact (kc HB.out _ _ hb0).trans h
      have HSU := Lib.hid (runTo_succ D L k)
      rw [HRUN.out] at HSU
      dsimp only at HSU
      clear hcc
      obtain ⟨x, hx⟩ : ∃ x, L.getD k 0 = x := ⟨_, rfl⟩
      rw [hx] at ox HSU
      clear hx
      have hw1 : IntKind.i64.wrap ((n : Int) - 1) = (n : Int) - 1 := IntWalk.i64_in _ (by omega)
      have hw2 : IntKind.i64.wrap (cn + 1) = cn + 1 := IntWalk.i64_in _ (by omega)
      obtain ⟨mb, hmb⟩ : ∃ mb, inB x 0 ((n : Int) - 1) = mb := ⟨_, rfl⟩
      have HMB := Lib.hid hmb
      have HMY := Lib.hid (show mayL Dk x = mb from by unfold mayL; rw [HOK.out.2.1]; exact hmb)
      clear hmb
      cases mb
      · have HE := Lib.hid (show runTo D L (k + 1) = (Dk, cn) from by rw [HSU.out, if_neg (by rw [HMY.out]; rintro ⟨h, _⟩; cases h)])
        have q0 := Lib.hid (fun (u : World) => by have h := l6In_any x 0 ((n : Int) - 1) u; rw [HMB.out] at h; exact quiet_sym h)
        go_wp2_with fail
        go_big_quiet (with_reducible exact Calls.quiet_of_same (q0.out _))
        go_wp2_with fail
        go_roundw
        case rel =>
          have hbd : Below wr.heap.size wr (wr.drewN nq) := bel_drewN (Below.refl _ _) _
          exact ⟨k + 1, by omega, by go_num, Dk, cn, gL, cL, rfl, HE.out, HLM.out.foot HSO.out.2.2.2 hbd, by rw [HWK.out, HNK.out]; exact HX.out.below hbd HX.out.lt, HZ.out.below hbd HZ.out.lt, HB.out.trans (hbd.mono HB.out.size), hgN⟩
        case measure => simp [intOf]; omega
      · obtain ⟨i, hin, rfl, hi3⟩ := may_iff.1 HMY.out
        have HIN := Lib.hid hin
        obtain ⟨cb, hcb⟩ : ∃ cb, canB Dk i = cb := ⟨_, rfl⟩
        have HCB := Lib.hid hcb
        have HTY := Lib.hid (show tyLock.R wr.drew wr.heap.size [.int .i64 Wk, .slice (some ⟨g0, 0, none⟩) n k0, .slice (some ⟨gL, 0, none⟩) nk cL] Dk from by
          have h := HLM.out.ty (c0 := k0) HSO.out.2.2.2 ⟨HSO.out.2.1, HSO.out.2.2.1⟩
          rw [HWK.out, HNK.out, HOK.out.2.1] at h
          exact Ty.below_w h (Below.refl _ wr).drew)
        have hd := Lib.hid (Below.refl wr.heap.size wr).drew
        clear hcb hin hi3
        go_wp2_with fail
        go_region_held3 (fun w' => w'.cell? ⟨N, 0, none⟩ = some (.int .i64 Wk) ∧ w'.cell? ⟨N, 1, none⟩ = some (.slice (some ⟨g0, 0, none⟩) n k0) ∧ w'.cell? ⟨N, 2, none⟩ = some (.slice (some ⟨gL, 0, none⟩) nk cL) ∧ w'.cell? ⟨b, o + k, none⟩ = some (.int .i64 i))
          (first | with_reducible exact ⟨(HKP.out _ _ pl).trans p0, (HKP.out _ _ pl).trans p1, (HKP.out _ _ pl).trans p2, (HKP.out _ _ hb3).trans ox⟩ | exact ⟨p0, p1, p2, ox⟩)
          (first
            | (go_at_call 62
               refine (l12Can_any HTY.out i HIN.out).mono ?_
               rw [HCB.out]
               rintro e w4 ⟨rfl, hb4⟩
               have HB4 := Lib.hid (hd.out.trans hb4)
               have HKP := Lib.hid (fun (x : Nat) (i : Nat) (hx : x < wr.heap.size) => (show w4.cell? ⟨x, i, none⟩ = wr.cell? ⟨x, i, none⟩ from hb4.cell (p := ⟨x, i, none⟩) hx))
               clear hb4)
            | (go_at_call 51
               refine (l6In_any i 0 ((n : Int) - 1) _).mono ?_
               rw [HMB.out]
               rintro e w9 ⟨rfl, rfl⟩))
        have X4 := Lib.hid (HX.out.below HB4.out HX.out.lt)
        have Z4 := Lib.hid (HZ.out.below HB4.out HZ.out.lt)
        have L4 := Lib.hid (HLM.out.foot HSO.out.2.2.2 HB4.out)
        have ox4 := (kc HB4.out _ _ hb3).trans ox
        have BW := Lib.hid (HB.out.trans (HB4.out.mono HB.out.size))
        clear p0 p1 p2 f0 f1 f2 pl z0 z1 z2 y0 y1 y2 zl ox HKP
        have hb5 : b < w4.heap.size := Nat.lt_of_lt_of_le hb3 HB4.out.size
        have hN4 : N < w4.heap.size := X4.out.lt
        cases cb
        · have HE := Lib.hid (show runTo D L (k + 1) = (Dk, cn) from by rw [HSU.out, if_neg (by rw [Int.toNat_natCast, HCB.out]; rintro ⟨_, h⟩; cases h)])
          go_wp2_with fail
          go_roundw
          case rel => exact ⟨k + 1, by omega, by go_num, Dk, cn, gL, cL, rfl, HE.out, L4.out, by rw [HWK.out, HNK.out]; exact X4.out, Z4.out, BW.out, hgN⟩
          case measure => simp [intOf]; omega
        · have HE := Lib.hid (show runTo D L (k + 1) = (stepD Dk i, cn + 1) from by rw [HSU.out, if_pos ⟨HMY.out, by rw [Int.toNat_natCast]; exact HCB.out⟩, Int.toNat_natCast])
          have HOK2 := Lib.hid (step_ok HOK.out.1 HIN.out HCB.out)
          have HLEN := Lib.hid (show (stepD Dk i).2.1.length = n from by
            have h := (run_ok (L := L) HLK.out (k := k + 1)).2.1
            rw [HE.out] at h
            rw [HL.out] at h
            exact h)
          have hbs : w1.heap.size + 2 ≤ w4.heap.size := by have := HS2.out; omega
          have HTO := Lib.hid (HOK.out.1.t i HIN.out)
          have p0 := X4.out.cell 0
          have p1 := X4.out.cell 1
          have p2 := X4.out.cell 2
          simp at p0 p1 p2
          go_wp2_with fail
          refine goAny_drew (z := 6) (S := fun w' => w'.cell? ⟨N, 0, none⟩ = some (.int .i64 Wk) ∧ w'.cell? ⟨N, 1, none⟩ = some (.slice (some ⟨g0, 0, none⟩) n k0) ∧ w'.cell? ⟨N, 2, none⟩ = some (.slice (some ⟨gL, 0, none⟩) nk cL) ∧ w'.cell? ⟨b, o + k, none⟩ = some (.int .i64 (i : Int))) (by kernel_rfl) ⟨p0, p1, p2, ox4⟩ (fun hHeld => ?_)
          have L6 := Lib.hid (L4.out.foot HSO.out.2.2.2 (Below.refl _ w4).drew)
          refine goAny_take (i := 0) (v := ?vr0) (by kernel_rfl) (by kernel_rfl) rfl (by kernel_rfl) (by kernel_rfl) (by kernel_rfl) (fun _ _ _ h => h) (Or.inl ⟨by rfl, ?hyr0⟩) (by assumption) ?restr0
          case hyr0 =>
            intro w hSw
            try dsimp only at hSw
            go_simp
            try with_reducible rfl
          simp only [Act.put, List.setIfInBounds_toArray, List.set_cons_zero, List.set_cons_succ, List.getElem_toArray, List.getElem_cons_zero]
          refine goAny_take (i := 1) (v := ?vr1) (by kernel_rfl) (by kernel_rfl) rfl (by kernel_rfl) (by kernel_rfl) (by kernel_rfl) (fun _ _ _ h => h) (Or.inl ⟨by rfl, ?hyr1⟩) (by assumption) ?restr1
          case hyr1 =>
            intro w hSw
            try dsimp only at hSw
            go_simp
            try with_reducible rfl
          simp only [Act.put, List.setIfInBounds_toArray, List.set_cons_zero, List.set_cons_succ, List.getElem_toArray, List.getElem_cons_zero, List.getElem_cons_succ]
          refine goAny_take (i := 2) (v := ?vr2) (by kernel_rfl) (by kernel_rfl) rfl (by kernel_rfl) (by kernel_rfl) (by kernel_rfl) (fun _ _ _ h => h) (Or.inl ⟨by rfl, ?hyr2⟩) (by assumption) ?restr2
          case hyr2 =>
            intro w hSw
            try dsimp only at hSw
            go_simp
            try with_reducible rfl
          simp only [Act.put, List.setIfInBounds_toArray, List.set_cons_zero, List.set_cons_succ, List.getElem_toArray, List.getElem_cons_zero, List.getElem_cons_succ]
          refine goAny_take (i := 3) (v := ?vr3) (by kernel_rfl) (by kernel_rfl) rfl (by kernel_rfl) (by kernel_rfl) (by kernel_rfl) (fun _ _ _ h => h) (Or.inl ⟨by rfl, ?hyr3⟩) (by assumption) ?restr3
          case hyr3 =>
            intro w hSw
            try dsimp only at hSw
            go_simp
            try with_reducible rfl
          simp only [Act.put, List.setIfInBounds_toArray, List.set_cons_zero, List.set_cons_succ, List.getElem_toArray, List.getElem_cons_zero, List.getElem_cons_succ]
          refine goAny_take (i := 4) (v := ?vr4) (by kernel_rfl) (by kernel_rfl) rfl (by kernel_rfl) (by kernel_rfl) (by kernel_rfl) (fun _ _ _ h => h) (Or.inl ⟨by rfl, ?hyr4⟩) (by assumption) ?restr4
          case hyr4 =>
            intro w hSw
            try dsimp only at hSw
            go_simp
            try with_reducible rfl
          simp only [Act.put, List.setIfInBounds_toArray, List.set_cons_zero, List.set_cons_succ, List.getElem_toArray, List.getElem_cons_zero, List.getElem_cons_succ]
          refine goAny_step (i := 5) (by kernel_rfl) rfl (fun K hK => ?_)
          go_simp
          have harg := l12Step_any (i := i) (w := w4.drew) (c0 := k0) L6.out HSO.out.2.2.1 HOK.out.1.rng hbs HIN.out HSO.out.2.1 HTO.out HOK.out.1.w HCB.out
          rw [HWK.out, HOK.out.2.1, HNK.out] at harg
          refine harg.mono ?_
          rintro e w5 ⟨g9, c9, rfl, hq, hft, hg9⟩
          have hft2 : Foot w4 w5 [g0, gL] := ⟨hft.os, hft.tape, hft.output, hft.size, hft.block⟩
          have HFT := Lib.hid hft2
          have HQ := Lib.hid hq
          have hNm : N ∉ [g0, gL] := by
            intro hm
            rcases List.mem_cons.1 hm with h | h
            · have := HS2.out; omega
            · rw [List.mem_singleton] at h; exact hgN h.symm
          have X5 := Lib.hid (HFT.out.box X4.out hNm)
          have Z5 := Lib.hid (HFT.out.box Z4.out (by
            intro hm
            have h1 := L4.out.lo
            have h2 := (OwnE.lt L4.out.line).1
            have h3 := HS2.out
            rcases List.mem_cons.1 hm with h | h
            · omega
            · rw [List.mem_singleton] at h; omega))
          have HG9 := Lib.hid (show g9 ≠ N from by
            rcases hg9 with h | h
            · rw [h]; exact hgN
            · have h4 : w4.heap.size ≤ g9 := h
              omega)
          clear harg hq hft hft2 hg9
          obtain ⟨W5, hW5⟩ : ∃ W5, (stepD Dk i).1 = W5 := ⟨_, rfl⟩
          obtain ⟨n5, hn5⟩ : ∃ n5, (stepD Dk i).2.2.length = n5 := ⟨_, rfl⟩
          have HW5 := Lib.hid hW5
          have HN5 := Lib.hid hn5
          rw [hW5, HLEN.out, hn5]
          clear hW5 hn5
          have ox5 : w5.cell? ⟨b, o + k, none⟩ = some (.int .i64 (i : Int)) := (cell_of_block (HFT.out.block b hb5 (by
            intro hm
            have h1 := L4.out.lo
            have h2 := (OwnE.lt L4.out.line).1
            have h3 := HS2.out
            rcases List.mem_cons.1 hm with h | h
            · omega
            · rw [List.mem_singleton] at h; omega)) _).trans ox4
          have x0 := X5.out.cell 0
          have x1 := X5.out.cell 1
          have x2 := X5.out.cell 2
          have v0 := X5.out.frz 0
          have v1 := X5.out.frz 1
          have v2 := X5.out.frz 2
          have xl := X5.out.lt
          simp at x0 x1 x2
          refine hK.out _ _ ?_ (fun hHeld => ?_)
          · exact ⟨x0, x1, x2, ox5⟩
          clear hK K
          try simp only [Act.put, List.setIfInBounds_toArray, List.set_cons_zero, List.set_cons_succ, List.getElem_toArray, List.getElem_cons_zero, List.getElem_cons_succ]
          refine goAny_last (by kernel_rfl) (by kernel_rfl) rfl (fun K hK => ?_)
          go_simp
          skip
          refine hK.out _ _ ?_
          clear hK K
          try simp only [Act.put, List.setIfInBounds_toArray, List.set_cons_zero, List.set_cons_succ, List.getElem_toArray, List.getElem_cons_zero, List.getElem_cons_succ]
          have hlo0 : w1.heap.size + 2 ≤ g0 := L4.out.lo
          have hloL := (OwnE.lt L4.out.line).1
          have hs2 := HS2.out
          have hg9N := HG9.out
          have XF := Lib.hid (((X5.out.set 0 (.int .i64 W5)).set 1 (.slice (some ⟨g0, 0, none⟩) n k0)).set 2 (.slice (some ⟨g9, 0, none⟩) n5 c9))
          simp only [List.setIfInBounds_toArray, List.set_cons_zero, List.set_cons_succ] at XF
          have ZF := Lib.hid (((Z5.out.other (a := ⟨N, 0, none⟩) (by show w.heap.size + 1 ≠ N; omega) (.int .i64 W5)).other (a := ⟨N, 1, none⟩) (by show w.heap.size + 1 ≠ N; omega) (.slice (some ⟨g0, 0, none⟩) n k0)).other (a := ⟨N, 2, none⟩) (by show w.heap.size + 1 ≠ N; omega) (.slice (some ⟨g9, 0, none⟩) n5 c9))
          have LF := Lib.hid (show LM (w1.heap.size + 2) (((w5.setCell ⟨N, 0, none⟩ (.int .i64 W5)).setCell ⟨N, 1, none⟩ (.slice (some ⟨g0, 0, none⟩) n k0)).setCell ⟨N, 2, none⟩ (.slice (some ⟨g9, 0, none⟩) n5 c9)) (stepD Dk i) g0 g9 c9 from
            ⟨rowM_offT (rowM_offT (rowM_offT HQ.out.row ⟨N, 0, none⟩ _ (by show g0 ≠ N; omega)) ⟨N, 1, none⟩ _ (by show g0 ≠ N; omega)) ⟨N, 2, none⟩ _ (by show g0 ≠ N; omega),
              ((HQ.out.line.other ⟨N, 0, none⟩ (.int .i64 W5) hg9N).other ⟨N, 1, none⟩ (.slice (some ⟨g0, 0, none⟩) n k0) hg9N).other ⟨N, 2, none⟩ (.slice (some ⟨g9, 0, none⟩) n5 c9) hg9N, HQ.out.lo, HQ.out.ne⟩)
          have BF := Lib.hid (((((BW.out.trans (HFT.out.below (lo := w.heap.size) (by have := BW.out.size; omega) fun b hb => by
            rcases List.mem_cons.1 hb with rfl | hb
            · omega
            · rw [List.mem_singleton] at hb; omega)).setCell (p := ⟨N, 0, none⟩) (by show w.heap.size ≤ N; omega) (.int .i64 W5)).setCell (p := ⟨N, 1, none⟩) (by show w.heap.size ≤ N; omega) (.slice (some ⟨g0, 0, none⟩) n k0)).setCell (p := ⟨N, 2, none⟩) (by show w.heap.size ≤ N; omega) (.slice (some ⟨g9, 0, none⟩) n5 c9)))
          clear x0 x1 x2 v0 v1 v2 xl p0 p1 p2 ox4 ox5
          generalize ((w5.setCell ⟨N, 0, none⟩ (.int .i64 W5)).setCell ⟨N, 1, none⟩ (.slice (some ⟨g0, 0, none⟩) n k0)).setCell ⟨N, 2, none⟩ (.slice (some ⟨g9, 0, none⟩) n5 c9) = wF at XF ZF LF BF ⊢
          go_wp2_with fail
          go_roundw
          case rel => exact ⟨k + 1, by omega, by go_num, stepD Dk i, cn + 1, g9, c9, rfl, HE.out, LF.out, by rw [HW5.out, HN5.out]; exact XF.out, ZF.out, BF.out, hg9N⟩
          case measure => simp [intOf]; omega
    · obtain rfl : k = m := by omega
      have HV := Lib.hid (show runL D L = Dk ∧ runN D L = cn from by
        unfold runL runN
        rw [HA.out, HLO.out, HRUN.out]
        exact ⟨rfl, rfl⟩)
      obtain rfl : D' = Dk := by rw [← HD.out]; exact HV.out.1
      obtain rfl : rn = cn := by rw [← HN.out]; exact HV.out.2
      go_wp2_with fail
      refine bodyPost_ret (v := .tuple #[.agg #[.int .i64 Wk, .slice (some ⟨g0, 0, none⟩) n k0, .slice (some ⟨gL, 0, none⟩) nk cL], .int .i64 rn]) (by simp [results, Try.results33, go_sem, z0, z1, z2]) rfl ⟨.int .i64 Wk, .slice (some ⟨g0, 0, none⟩) n k0, .slice (some ⟨gL, 0, none⟩) nk cL, [g0, gL], rfl, ?_⟩
      have hq := (((HLM.out.cell (X := w.heap.size + 1) (by have := HS2.out; omega) 0 (.int .i64 Wk)).cell (X := w.heap.size + 1) (by have := HS2.out; omega) 1 (.slice (some ⟨g0, 0, none⟩) n k0)).cell (X := w.heap.size + 1) (by have := HS2.out; omega) 2 (.slice (some ⟨gL, 0, none⟩) nk cL)).km (w := w) (c0 := k0) (by have := HS2.out; omega) HSO.out.2.2.2 HSO.out.1 (bel3 HB.out (by omega) _ _ _)
      rw [HWK.out, HOK.out.2.1, HNK.out] at hq
      exact hq
end Go.Proofs.Ytpmigekejipohaa

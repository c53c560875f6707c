/-
  Locks: the program's LockOk, LockIn.
-/
import Derived.Test.YtpmigekejipohaaLIb
namespace Go.Proofs.Ytpmigekejipohaa
open Go.RowKit

section
variable {w : World}
set_option maxHeartbeats 2000000 in
theorem lockOkI : KOk 23 := by
  intro w hi x0 x1 x2 D h
  obtain ⟨A, n, c, A2, n2, c2, hcs, ⟨hl, hn, hr⟩, ⟨hl2, ⟨hn2, hc2⟩, hr2⟩⟩ := tyLock_R h
  simp only [List.cons.injEq, and_true] at hcs
  obtain ⟨rfl, rfl, rfl⟩ := hcs
  have HRF := Lib.hid hr
  have HR2 := Lib.hid hr2
  have HL := Lib.hid hl
  have HL2 := Lib.hid hl2
  have HN := Lib.hid hn
  have HN2 := Lib.hid hn2
  have HC2 := Lib.hid hc2
  obtain ⟨b, hb⟩ : ∃ b, lkB D = b := ⟨_, rfl⟩
  rw [hb]
  obtain ⟨W, hW⟩ : ∃ W, D.1 = W := ⟨_, rfl⟩
  have HW := Lib.hid hW
  obtain ⟨mb, hmb⟩ : ∃ mb, inB W 0 2 = mb := ⟨_, rfl⟩
  have HMB := Lib.hid hmb
  have HBB := Lib.hid (show b = (mb && (inB (n : Int) 1 4 && (D.2.1.all tokI && lineB D))) from by rw [← hb, ← lkI_eq]; unfold lkI; rw [hW, hmb, hl])
  rw [hW]
  unfold maxLen at hn
  clear hr hr2 hl hl2 hn2 hc2 hb hmb h hW
  have X0 := Lib.hid (Box.new w #[.int .i64 W, .slice A n c, .slice A2 n2 c2] 28)
  have HB0 := Lib.hid (show Below w.heap.size w (w.alloc (.cells #[.int .i64 W, .slice A n c, .slice A2 n2 c2] 28)) from (Below.refl _ _).alloc (Nat.le_refl _) _)
  go_enter Try.func23, Try.ntmps23
  go_wp2_with fail
  generalize w.alloc (.cells #[.int .i64 W, .slice A n c, .slice A2 n2 c2] 28) = W0 at X0 HB0 ⊢
  have p0 := X0.out.cell 0
  have p1 := X0.out.cell 1
  have p2 := X0.out.cell 2
  have pl := X0.out.lt
  simp at p0 p1 p2
  refine (among_any _ _ _).mono ?_
  rw [HMB.out]
  rintro e w1 ⟨rfl, rfl⟩
  cases mb
  · obtain rfl : b = false := by rw [HBB.out]; rfl
    go_wp2_with fail
    go_ret
    exact ⟨rfl, HB0.out⟩
  by_cases h1 : n < 1
  · obtain rfl : b = false := by rw [HBB.out, inB_not (n := (n : Int)) (by omega)]; rfl
    have h1' : (n : Int) < 1 := by omega
    go_wp2_with fail
    go_ret
    exact ⟨rfl, HB0.out⟩
  by_cases h4 : 4 < n
  · obtain rfl : b = false := by rw [HBB.out, inB_not (n := (n : Int)) (by omega)]; rfl
    have h1' : ¬ ((n : Int) < 1) := by omega
    have h4' : (4 : Int) < n := by omega
    go_wp2_with fail
    go_ret
    exact ⟨rfl, HB0.out⟩
  have HBC := Lib.hid (show b = (D.2.1.all tokI && lineB D) from by rw [HBB.out, inB_of (n := (n : Int)) (by omega)]; rfl)
  have h1' : ¬ ((n : Int) < 1) := by omega
  have h4' : ¬ ((4 : Int) < n) := by omega
  have h4n : n ≤ 4 := by omega
  clear HBB h1 h4 hn
  obtain ⟨ab, hab⟩ : ∃ ab, D.2.1.all tokI = ab := ⟨_, rfl⟩
  have HAB := Lib.hid hab
  rw [hab] at HBC
  clear hab
  go_wp2_with fail
  refine (containsF_any (c := c) (rowL (HRF.out.wb HB0.out)) HL.out h4n).mono ?_
  rw [HAB.out]
  rintro e w2 ⟨rfl, hb2⟩
  have HB2 := Lib.hid (HB0.out.trans (hb2.mono HB0.out.size))
  have X2 := Lib.hid (X0.out.below hb2 pl)
  clear hb2 p0 p1 p2 pl X0
  have p0 := X2.out.cell 0
  have p1 := X2.out.cell 1
  have p2 := X2.out.cell 2
  have pl := X2.out.lt
  simp at p0 p1 p2
  cases ab
  · obtain rfl : b = false := by rw [HBC.out]; rfl
    go_wp2_with fail
    go_ret
    exact ⟨rfl, HB2.out⟩
  have HBD := Lib.hid (show lineB D = b from by rw [HBC.out]; rfl)
  clear HBC
  have hcall := lineOk_any (c := c) (rowL (HRF.out.wb HB2.out)) HL.out h4n (HR2.out.wb HB2.out) HL2.out HN2.out HC2.out
  rw [HW.out, HBD.out] at hcall
  have HC := Lib.hid hcall
  clear hcall
  go_wp2_with fail
  refine HC.out.mono ?_
  rintro e w3 ⟨rfl, hb3⟩
  have HB3 := Lib.hid (HB2.out.trans (hb3.mono HB2.out.size))
  clear hb3
  go_wp2_with fail
  go_ret
  exact ⟨rfl, HB3.out⟩
set_option maxHeartbeats 2000000 in
theorem lockInI : KIn 24 := by
  intro w hi x0 x1 x2 D h
  have HR0 := Lib.hid h
  obtain ⟨A, n, c, A2, n2, c2, hcs, ⟨hl, hn, hr⟩, _⟩ := tyLock_R h
  simp only [List.cons.injEq, and_true] at hcs
  obtain ⟨rfl, rfl, rfl⟩ := hcs
  have HRF := Lib.hid (rowL hr)
  have HL := Lib.hid hl
  obtain ⟨W, hW⟩ : ∃ W, D.1 = W := ⟨_, rfl⟩
  rw [hW] at HR0 ⊢
  have X1 := Lib.hid (Box.new w #[.int .i64 W, .slice A n c, .slice A2 n2 c2] 28)
  have HB1 := Lib.hid (show Below w.heap.size w (w.alloc (.cells #[.int .i64 W, .slice A n c, .slice A2 n2 c2] 28)) from (Below.refl _ _).alloc (Nat.le_refl _) _)
  have HT1 := Lib.hid (Ty.below_w HR0.out HB1.out)
  clear h hW hr hl hn
  obtain ⟨r, hr⟩ : ∃ r, inD D = r := ⟨_, rfl⟩
  rw [hr]
  have HRR := Lib.hid hr
  obtain ⟨a, ha⟩ : ∃ a, lkB D = a := ⟨_, rfl⟩
  have HA := Lib.hid ha
  clear hr ha
  go_enter Try.func24, Try.ntmps24
  go_wp2_with fail
  generalize w.alloc (.cells #[.int .i64 W, .slice A n c, .slice A2 n2 c2] 28) = W0 at X1 HB1 HT1 ⊢
  refine (lockOkI HT1.out).mono ?_
  rw [HA.out]
  rintro e w1 ⟨rfl, hb1⟩
  have HB2 := Lib.hid (HB1.out.trans (hb1.mono HB1.out.size))
  have X2 := Lib.hid (X1.out.below hb1 X1.out.lt)
  clear hb1 X1 HT1 HB1
  have p0 := X2.out.cell 0
  have p1 := X2.out.cell 1
  have p2 := X2.out.cell 2
  have pl := X2.out.lt
  simp at p0 p1 p2
  cases a
  · obtain rfl : r = -1 := by rw [← HRR.out]; unfold inD; rw [HA.out]; rfl
    go_wp2_with fail
    go_ret
    exact ⟨rfl, HB2.out⟩
  have HIN := Lib.hid (show inTo D n = r from by rw [← HRR.out]; unfold inD; rw [HA.out, HL.out]; rfl)
  have h4n : n ≤ 4 := by have := (lk_iff.1 HA.out).n; rw [HL.out] at this; omega
  clear HRR HR0
  go_wp2_with fail
  go_loopw [3, 12] (fun cnt i wr => ∃ k : Nat, k ≤ n ∧ i = .int .i64 k ∧ cnt = .int .i64 (inTo D k) ∧ Below w.heap.size w wr ∧ w1.heap.size ≤ wr.heap.size) (fun _ i _ => n - (intOf i).toNat)
  case atStart => exact ⟨0, Nat.zero_le _, rfl, rfl, HB2.out, Nat.le_refl _⟩
  case round =>
    obtain ⟨k, hk, rfl, rfl, hb, hsz⟩ := hrel
    have HB := Lib.hid hb
    clear hb p0 p1 p2 pl
    by_cases hlt : k < n
    · obtain ⟨bb, o, rfl, hb0, hc⟩ := HRF.out (by omega)
      have hk1 : (k : Int) < n := by omega
      have hk2 : (0 : Int) ≤ k := by omega
      obtain ⟨c0, c1, c2', c3⟩ := (hc k hlt).below HB.out hb0
      have hb1 : bb < wr.heap.size := Nat.lt_of_lt_of_le hb0 HB.out.size
      clear hc
      have HS := Lib.hid (show inTo D (k + 1) = inTo D k + (if (th D k).f0 = 4 then 1 else 0) from rfl)
      have hnn := inTo_nn (D := D) (n := k)
      obtain ⟨z, hz⟩ : ∃ z, inTo D k = z := ⟨_, rfl⟩
      rw [hz] at HS hnn
      rw [hz]
      clear hz
      obtain ⟨t, ht⟩ : ∃ t, th D k = t := ⟨_, rfl⟩
      rw [show D.2.1.getD k thZ = t from ht] at c0 c1 c2' c3
      rw [ht] at HS
      clear ht
      obtain ⟨t0, t1, t2, t3⟩ := t
      dsimp only at c0 c1 c2' c3 HS
      have HB1 := Lib.hid (HB.out.alloc HB.out.size (.cells #[.int .i64 t0, .int .i64 t1, .int .i64 t2, .bool t3] 41))
      by_cases h4 : t0 = 4
      · subst h4
        rw [if_pos rfl] at HS
        have hw1 : IntKind.i64.wrap (z + 1) = z + 1 := IntWalk.i64_in _ (by omega)
        go_wp2_with fail
        go_roundw
        case rel => exact ⟨k + 1, by omega, by go_num, by rw [HS.out], HB1.out, by simp only [World.size_alloc]; omega⟩
        case measure => simp [intOf]; omega
      · rw [if_neg h4, Int.add_zero] at HS
        have e4 : (t0 == 4) = false := by simpa using h4
        clear h4
        go_wp2_with fail
        go_roundw
        case rel => exact ⟨k + 1, by omega, by go_num, by rw [HS.out], HB1.out, by simp only [World.size_alloc]; omega⟩
        case measure => simp [intOf]; omega
    · obtain rfl : k = n := by omega
      rw [HIN.out]
      go_wp2_with fail
      go_ret
      exact ⟨rfl, HB.out⟩
end
end Go.Proofs.Ytpmigekejipohaa

/-
  The draws of what LockOk, LockIn, LockStep and LockRun are asked.
-/
import Derived.Test.YtpnlmdnjpcjhjaaLDraw2
namespace Go.Proofs.Ytpnlmdnjpcjhjaa
open Go.RowKit

section
variable {A : Option Addr} {n c : Nat} {w : World}
/-- what DrawLockOk draws -/
def DDrawLockOk (w : World) (e : Ending) (w' : World) : Prop := ∃ (g0 d1 : Nat) (A2 : Option Addr) (d2 : Nat) (D : Lk) (fp : List Nat), e = .returned (.agg #[.int .i64 D.1, .slice (some ⟨g0, 0, none⟩) D.2.1.length d1, .slice A2 D.2.2.length d2]) ∧ tyLock.M w' fp [.int .i64 D.1, .slice (some ⟨g0, 0, none⟩) D.2.1.length d1, .slice A2 D.2.2.length d2] D ∧ (∀ b ∈ fp, w.heap.size ≤ b ∧ b < w'.heap.size) ∧ (1 ≤ D.2.1.length ∧ D.2.1.length ≤ 4 ∧ D.2.2.length ≤ 5) ∧ Below w.heap.size w w'
set_option maxHeartbeats 4000000 in
set_option maxRecDepth 100000 in
theorem dDrawLockOk_any (hc : Code w A n) (hcap : n ≤ c) (hcap2 : c ≤ maxLen) : Calls Try.prog 26 #[.slice A n c] w (DDrawLockOk w) := by
  have HA0 := Lib.hid (show Below w.heap.size w (w.alloc (.cells #[.int .i64 0, .slice none 0 0, .slice none 0 0] 28)) from (Below.refl _ _).alloc (Nat.le_refl _) _)
  have Z_0 := Lib.hid (Box.new w #[.int .i64 0, .slice none 0 0, .slice none 0 0] 28)
  go_enter Try.func26, Try.ntmps26
  go_wp2_with fail
  refine (open_any (hc.below HA0.out) hcap hcap2).mono ?_
  rintro e w1 ⟨A', n', c', rfl, hr, hb1⟩
  have hg := hr.box.lt
  have HB1 := Lib.hid (HA0.out.trans (hb1.mono HA0.out.size))
  have Z_1 := Lib.hid (Z_0.out.below hb1 Z_0.out.lt)
  simp only [World.size_alloc] at hr hg
  have HR1 := Lib.hid hr
  clear hb1 hr
  go_wp2_with fail
  refine (lock_any HR1.out (by omega)).mono ?_
  rintro e w2 ⟨g0, d1, A2, d2, D, fp, q2, rfl, hm, hf, hsz, hrd, hq2, ht⟩
  have hz2 := hrd.p0
  have HM := Lib.hid hm
  have HF := Lib.hid hf
  have HSZ := Lib.hid hsz
  have HR2 := Lib.hid hrd
  have HT2 := Lib.hid ht
  have hs2 := ht.size
  have Z_2 := Lib.hid (ht.box Z_1.out (fun a e => by injection e with e; subst e; show w.heap.size ≠ w.heap.size + 1; omega))
  clear hm hf hsz hrd ht
  have z0 := Z_2.out.cell 0
  have z1 := Z_2.out.cell 1
  have z2 := Z_2.out.cell 2
  have e0 := Z_2.out.frz 0
  have e1 := Z_2.out.frz 1
  have e2 := Z_2.out.frz 2
  have zl := Z_2.out.lt
  simp at z0 z1 z2
  go_wp2_with fail
  exact bodyPost_ret (v := .agg #[.int .i64 D.1, .slice (some ⟨g0, 0, none⟩) D.2.1.length d1, .slice A2 D.2.2.length d2]) (by simp [results, Try.results26, go_sem, z0, z1, z2]) rfl ⟨g0, d1, A2, d2, D, fp, rfl, (tyLock.mframe (tyLock.mframe (tyLock.mframe HM.out fun b hb => heap_setCell_other _ ⟨w.heap.size, 0, none⟩ b _ (by have h := HF.out b hb; show b ≠ w.heap.size; omega)) fun b hb => heap_setCell_other _ ⟨w.heap.size, 1, none⟩ b _ (by have h := HF.out b hb; show b ≠ w.heap.size; omega)) fun b hb => heap_setCell_other _ ⟨w.heap.size, 2, none⟩ b _ (by have h := HF.out b hb; show b ≠ w.heap.size; omega)), (fun b hb => by have h := HF.out b hb; simp only [World.size_setCell]; omega), HSZ.out, ((((HB1.out.trans (HT2.out.low (lo := w.heap.size) (by omega) (by omega))).setCell (p := ⟨w.heap.size, 0, none⟩) (by show w.heap.size ≤ w.heap.size; omega) _).setCell (p := ⟨w.heap.size, 1, none⟩) (by show w.heap.size ≤ w.heap.size; omega) _).setCell (p := ⟨w.heap.size, 2, none⟩) (by show w.heap.size ≤ w.heap.size; omega) _)⟩
/-- what DrawLockIn draws -/
def DDrawLockIn (w : World) (e : Ending) (w' : World) : Prop := ∃ (g0 d1 : Nat) (A2 : Option Addr) (d2 : Nat) (D : Lk) (fp : List Nat), e = .returned (.agg #[.int .i64 D.1, .slice (some ⟨g0, 0, none⟩) D.2.1.length d1, .slice A2 D.2.2.length d2]) ∧ tyLock.M w' fp [.int .i64 D.1, .slice (some ⟨g0, 0, none⟩) D.2.1.length d1, .slice A2 D.2.2.length d2] D ∧ (∀ b ∈ fp, w.heap.size ≤ b ∧ b < w'.heap.size) ∧ (1 ≤ D.2.1.length ∧ D.2.1.length ≤ 4 ∧ D.2.2.length ≤ 5) ∧ Below w.heap.size w w'
set_option maxHeartbeats 4000000 in
set_option maxRecDepth 100000 in
theorem dDrawLockIn_any (hc : Code w A n) (hcap : n ≤ c) (hcap2 : c ≤ maxLen) : Calls Try.prog 34 #[.slice A n c] w (DDrawLockIn w) := by
  have HA0 := Lib.hid (show Below w.heap.size w (w.alloc (.cells #[.int .i64 0, .slice none 0 0, .slice none 0 0] 28)) from (Below.refl _ _).alloc (Nat.le_refl _) _)
  have Z_0 := Lib.hid (Box.new w #[.int .i64 0, .slice none 0 0, .slice none 0 0] 28)
  go_enter Try.func34, Try.ntmps34
  go_wp2_with fail
  refine (open_any (hc.below HA0.out) hcap hcap2).mono ?_
  rintro e w1 ⟨A', n', c', rfl, hr, hb1⟩
  have hg := hr.box.lt
  have HB1 := Lib.hid (HA0.out.trans (hb1.mono HA0.out.size))
  have Z_1 := Lib.hid (Z_0.out.below hb1 Z_0.out.lt)
  simp only [World.size_alloc] at hr hg
  have HR1 := Lib.hid hr
  clear hb1 hr
  go_wp2_with fail
  refine (lock_any HR1.out (by omega)).mono ?_
  rintro e w2 ⟨g0, d1, A2, d2, D, fp, q2, rfl, hm, hf, hsz, hrd, hq2, ht⟩
  have hz2 := hrd.p0
  have HM := Lib.hid hm
  have HF := Lib.hid hf
  have HSZ := Lib.hid hsz
  have HR2 := Lib.hid hrd
  have HT2 := Lib.hid ht
  have hs2 := ht.size
  have Z_2 := Lib.hid (ht.box Z_1.out (fun a e => by injection e with e; subst e; show w.heap.size ≠ w.heap.size + 1; omega))
  clear hm hf hsz hrd ht
  have z0 := Z_2.out.cell 0
  have z1 := Z_2.out.cell 1
  have z2 := Z_2.out.cell 2
  have e0 := Z_2.out.frz 0
  have e1 := Z_2.out.frz 1
  have e2 := Z_2.out.frz 2
  have zl := Z_2.out.lt
  simp at z0 z1 z2
  go_wp2_with fail
  exact bodyPost_ret (v := .agg #[.int .i64 D.1, .slice (some ⟨g0, 0, none⟩) D.2.1.length d1, .slice A2 D.2.2.length d2]) (by simp [results, Try.results34, go_sem, z0, z1, z2]) rfl ⟨g0, d1, A2, d2, D, fp, rfl, (tyLock.mframe (tyLock.mframe (tyLock.mframe HM.out fun b hb => heap_setCell_other _ ⟨w.heap.size, 0, none⟩ b _ (by have h := HF.out b hb; show b ≠ w.heap.size; omega)) fun b hb => heap_setCell_other _ ⟨w.heap.size, 1, none⟩ b _ (by have h := HF.out b hb; show b ≠ w.heap.size; omega)) fun b hb => heap_setCell_other _ ⟨w.heap.size, 2, none⟩ b _ (by have h := HF.out b hb; show b ≠ w.heap.size; omega)), (fun b hb => by have h := HF.out b hb; simp only [World.size_setCell]; omega), HSZ.out, ((((HB1.out.trans (HT2.out.low (lo := w.heap.size) (by omega) (by omega))).setCell (p := ⟨w.heap.size, 0, none⟩) (by show w.heap.size ≤ w.heap.size; omega) _).setCell (p := ⟨w.heap.size, 1, none⟩) (by show w.heap.size ≤ w.heap.size; omega) _).setCell (p := ⟨w.heap.size, 2, none⟩) (by show w.heap.size ≤ w.heap.size; omega) _)⟩
/-- what DrawLockStep draws -/
def DDrawLockStep (w : World) (e : Ending) (w' : World) : Prop := ∃ (g0 d1 : Nat) (A2 : Option Addr) (d2 : Nat) (D : Lk) (fp : List Nat) (x : Int), e = .returned (.tuple #[.agg #[.int .i64 D.1, .slice (some ⟨g0, 0, none⟩) D.2.1.length d1, .slice A2 D.2.2.length d2], .int .i64 x]) ∧ tyLock.M w' fp [.int .i64 D.1, .slice (some ⟨g0, 0, none⟩) D.2.1.length d1, .slice A2 D.2.2.length d2] D ∧ (∀ b ∈ fp, w.heap.size ≤ b ∧ b < w'.heap.size) ∧ (1 ≤ D.2.1.length ∧ D.2.1.length ≤ 4 ∧ D.2.2.length ≤ 5) ∧ (-1 ≤ x ∧ x ≤ 4) ∧ Below w.heap.size w w'
set_option maxHeartbeats 4000000 in
set_option maxRecDepth 100000 in
theorem dDrawLockStep_any (hc : Code w A n) (hcap : n ≤ c) (hcap2 : c ≤ maxLen) : Calls Try.prog 29 #[.slice A n c] w (DDrawLockStep w) := by
  have HA0 := Lib.hid (show Below w.heap.size w (w.alloc (.cells #[.int .i64 0, .slice none 0 0, .slice none 0 0] 28)) from (Below.refl _ _).alloc (Nat.le_refl _) _)
  have Z_0 := Lib.hid (Box.new w #[.int .i64 0, .slice none 0 0, .slice none 0 0] 28)
  go_enter Try.func29, Try.ntmps29
  go_wp2_with fail
  refine (open_any (hc.below HA0.out) hcap hcap2).mono ?_
  rintro e w1 ⟨A', n', c', rfl, hr, hb1⟩
  have hg := hr.box.lt
  have HB1 := Lib.hid (HA0.out.trans (hb1.mono HA0.out.size))
  have Z_1 := Lib.hid (Z_0.out.below hb1 Z_0.out.lt)
  simp only [World.size_alloc] at hr hg
  have HR1 := Lib.hid hr
  clear hb1 hr
  go_wp2_with fail
  refine (lock_any HR1.out (by omega)).mono ?_
  rintro e w2 ⟨g0, d1, A2, d2, D, fp, q2, rfl, hm, hf, hsz, hrd, hq2, ht⟩
  have hz2 := hrd.p0
  have HM := Lib.hid hm
  have HF := Lib.hid hf
  have HSZ := Lib.hid hsz
  have HR2 := Lib.hid hrd
  have HT2 := Lib.hid ht
  have hs2 := ht.size
  have Z_2 := Lib.hid (ht.box Z_1.out (fun a e => by injection e with e; subst e; show w.heap.size ≠ w.heap.size + 1; omega))
  clear hm hf hsz hrd ht
  go_wp2_with fail
  refine (pick2_any 6 (by omega) (by omega) HR2.out (by omega)).mono ?_
  rintro e w3 ⟨x3, rfl, lo3, up3, hrd, ht⟩
  have HT3 := Lib.hid (HT2.out.trans ht)
  have HM3 := Lib.hid (tyLock.mframe HM.out fun b hb => ht.block b (HF.out b hb).2 fun _ a e => by injection e with e; subst e; have h := HF.out b hb; show b ≠ w.heap.size + 1; omega)
  have HF3 := Lib.hid (show ∀ b ∈ fp, w.heap.size ≤ b ∧ b ≠ w.heap.size ∧ b < w3.heap.size from fun b hb => by have h := HF.out b hb; have := ht.size; omega)
  have Z_3 := Lib.hid (ht.box Z_2.out (fun a e => by injection e with e; subst e; show w.heap.size ≠ w.heap.size + 1; omega))
  clear hrd ht
  have z0 := Z_3.out.cell 0
  have z1 := Z_3.out.cell 1
  have z2 := Z_3.out.cell 2
  have e0 := Z_3.out.frz 0
  have e1 := Z_3.out.frz 1
  have e2 := Z_3.out.frz 2
  have zl := Z_3.out.lt
  simp at z0 z1 z2
  go_wp2_with fail
  exact bodyPost_ret (v := .tuple #[.agg #[.int .i64 D.1, .slice (some ⟨g0, 0, none⟩) D.2.1.length d1, .slice A2 D.2.2.length d2], .int .i64 (x3 - 1)]) (by simp [results, Try.results29, go_sem, z0, z1, z2]) rfl ⟨g0, d1, A2, d2, D, fp, x3 - 1, rfl, (tyLock.mframe (tyLock.mframe (tyLock.mframe HM3.out fun b hb => heap_setCell_other _ ⟨w.heap.size, 0, none⟩ b _ (by have h := HF3.out b hb; show b ≠ w.heap.size; omega)) fun b hb => heap_setCell_other _ ⟨w.heap.size, 1, none⟩ b _ (by have h := HF3.out b hb; show b ≠ w.heap.size; omega)) fun b hb => heap_setCell_other _ ⟨w.heap.size, 2, none⟩ b _ (by have h := HF3.out b hb; show b ≠ w.heap.size; omega)), (fun b hb => by have h := HF3.out b hb; simp only [World.size_setCell]; omega), HSZ.out, by omega, ((((HB1.out.trans (HT3.out.low (lo := w.heap.size) (by omega) (by omega))).setCell (p := ⟨w.heap.size, 0, none⟩) (by show w.heap.size ≤ w.heap.size; omega) _).setCell (p := ⟨w.heap.size, 1, none⟩) (by show w.heap.size ≤ w.heap.size; omega) _).setCell (p := ⟨w.heap.size, 2, none⟩) (by show w.heap.size ≤ w.heap.size; omega) _)⟩
/-- what DrawLockRun draws -/
def DDrawLockRun (w : World) (e : Ending) (w' : World) : Prop := ∃ (g0 d1 : Nat) (A2 : Option Addr) (d2 : Nat) (D : Lk) (fp : List Nat) (O m co : Nat) (L : List Int), e = .returned (.tuple #[.agg #[.int .i64 D.1, .slice (some ⟨g0, 0, none⟩) D.2.1.length d1, .slice A2 D.2.2.length d2], .slice (some ⟨O, 0, none⟩) m co]) ∧ tyLock.M w' fp [.int .i64 D.1, .slice (some ⟨g0, 0, none⟩) D.2.1.length d1, .slice A2 D.2.2.length d2] D ∧ (∀ b ∈ fp, w.heap.size ≤ b ∧ b < w'.heap.size) ∧ (1 ≤ D.2.1.length ∧ D.2.1.length ≤ 4 ∧ D.2.2.length ≤ 5) ∧ (RowF elI w' w'.heap.size (some ⟨O, 0, none⟩) m L ∧ L.length = m ∧ m ≤ 39 ∧ m ≤ co ∧ O < w'.heap.size) ∧ Below w.heap.size w w'
set_option maxHeartbeats 4000000 in
set_option maxRecDepth 100000 in
theorem dDrawLockRun_any (hc : Code w A n) (hcap : n ≤ c) (hcap2 : c ≤ maxLen) : Calls Try.prog 32 #[.slice A n c] w (DDrawLockRun w) := by
  have HA0 := Lib.hid (show Below w.heap.size w (w.alloc (.cells #[.int .i64 0, .slice none 0 0, .slice none 0 0] 28)) from (Below.refl _ _).alloc (Nat.le_refl _) _)
  have Z_0 := Lib.hid (Box.new w #[.int .i64 0, .slice none 0 0, .slice none 0 0] 28)
  go_enter Try.func32, Try.ntmps32
  go_wp2_with fail
  refine (open_any (hc.below HA0.out) hcap hcap2).mono ?_
  rintro e w1 ⟨A', n', c', rfl, hr, hb1⟩
  have hg := hr.box.lt
  have HB1 := Lib.hid (HA0.out.trans (hb1.mono HA0.out.size))
  have Z_1 := Lib.hid (Z_0.out.below hb1 Z_0.out.lt)
  simp only [World.size_alloc] at hr hg
  have HR1 := Lib.hid hr
  clear hb1 hr
  obtain ⟨i0, hi0, hz0, hz1, hz2⟩ := infoInt
  have HIN := Lib.hid hi0
  have HZ0 := Lib.hid hz0
  have HZ1 := Lib.hid hz1
  have HZ2 := Lib.hid hz2
  clear hi0 hz0 hz1 hz2
  have ha1 := (Below.refl w1.heap.size w1).alloc (Nat.le_refl _) (.cells #[] 3)
  have HRa := Lib.hid (HR1.out.below ha1)
  have HTa := Lib.hid (show Touch w1 (w1.alloc (.cells #[] 3)) (some ⟨w.heap.size + 1, 0, none⟩) 1 from Touch.of_below ha1)
  have Z_a := Lib.hid (Z_1.out.alloc (.cells #[] 3))
  have HOa := Lib.hid (show OwnE elI 3 (w1.alloc (.cells #[] 3)) w1.heap.size (.slice (some ⟨w1.heap.size, 0, none⟩) 0 0) [] from own_nil (Box.new w1 #[] 3) (Nat.le_refl _))
  have HG := Lib.hid hg
  clear ha1
  go_wp2_with fail
  generalize w1.alloc (.cells #[] 3) = wa at HRa HTa Z_a HOa ⊢
  obtain ⟨B, hB⟩ : ∃ B, w1.heap.size = B := ⟨_, rfl⟩
  rw [hB] at HOa HG
  simp only [hB]
  have HBE := Lib.hid hB
  clear hB
  refine (pick2_any 40 (by omega) (by omega) HRa.out (by omega)).mono ?_
  rintro e wb ⟨x0, rfl, lo0, up0, hrd, ht⟩
  have HRb := Lib.hid hrd
  have HTb := Lib.hid (HTa.out.trans ht)
  have Z_b := Lib.hid (ht.box Z_a.out (fun a e => by injection e with e; subst e; show w.heap.size ≠ w.heap.size + 1; omega))
  have HOb := Lib.hid (HOa.out.framed fun b e => ht.block b (HOa.out.ltv b e).2 fun _ a e2 => by injection e2 with e2; subst e2; have h1 := (HOa.out.ltv b e).1; have h2 := HG.out; show b ≠ w.heap.size + 1; omega)
  clear hrd ht HRa HTa Z_a HOa
  obtain ⟨N, rfl⟩ : ∃ N : Nat, x0 = N := ⟨x0.toNat, by omega⟩
  go_wp2_with fail
  go_loopw [5, 6] (fun out i wr => ∃ (k b d : Nat) (L : List Int) (q : Int), i = .int .i64 k ∧ out = .slice (some ⟨b, 0, none⟩) L.length d ∧ L.length + k ≤ 39 ∧ q + 2 * k ≤ 90 ∧ Rd wr (w.heap.size + 1) A' n' c' q ∧ OwnE elI 3 wr B (.slice (some ⟨b, 0, none⟩) L.length d) L ∧ Touch w1 wr (some ⟨w.heap.size + 1, 0, none⟩) 1 ∧ Box wr w.heap.size #[.int .i64 0, .slice none 0 0, .slice none 0 0] 28 ∧ B ≤ wr.heap.size) (fun _ i _ => (intOf i).toNat)
  case atStart => exact ⟨N, B, 0, [], _, rfl, rfl, by simp; omega, by omega, HRb.out, HOb.out, HTb.out, Z_b.out, Nat.le_of_lt (HOb.out.ltv _ rfl).2⟩
  case round =>
    obtain ⟨k, b, d, L, q, rfl, rfl, hlk, hqk, hr, ho, ht, hz, hBw⟩ := hrel
    clear HRb HTb Z_b HOb lo0 up0
    have HR := Lib.hid hr
    have HO := Lib.hid ho
    have HT := Lib.hid ht
    have HZB := Lib.hid hz
    have hq0 := hr.p0
    obtain ⟨m, hm⟩ : ∃ m, L.length = m := ⟨_, rfl⟩
    have HM := Lib.hid hm
    rw [hm] at hlk ⊢
    clear hr ho ht hz hm
    by_cases hk : 0 < k
    · have hk1 : (0 : Int) < k := by omega
      go_wp2_with fail
      refine (pick2_any 5 (by omega) (by omega) HR.out (by omega)).mono ?_
      rintro e w3 ⟨x, rfl, x0, x1, hrd, ht⟩
      have HR3 := Lib.hid hrd
      have HT3 := Lib.hid (HT.out.trans ht)
      have HZ3 := Lib.hid (ht.box HZB.out (fun a e => by injection e with e; subst e; show w.heap.size ≠ w.heap.size + 1; omega))
      have HO3 := Lib.hid (HO.out.framed fun b e => ht.block b (HO.out.ltv b e).2 fun _ a e2 => by injection e2 with e2; subst e2; have h1 := (HO.out.ltv b e).1; have h2 := HG.out; show b ≠ w.heap.size + 1; omega)
      have hs3 := ht.size
      clear hrd ht HR HT HZB HO
      go_wp2_with fail
      refine (pick2_any 9 (by omega) (by omega) HR3.out (by omega)).mono ?_
      rintro e w4 ⟨y, rfl, y0, y1, hrd, ht⟩
      have HR4 := Lib.hid hrd
      have HT4 := Lib.hid (HT3.out.trans ht)
      have HZ4 := Lib.hid (ht.box HZ3.out (fun a e => by injection e with e; subst e; show w.heap.size ≠ w.heap.size + 1; omega))
      have HO4 := Lib.hid (HO3.out.framed fun b e => ht.block b (HO3.out.ltv b e).2 fun _ a e2 => by injection e2 with e2; subst e2; have h1 := (HO3.out.ltv b e).1; have h2 := HG.out; show b ≠ w.heap.size + 1; omega)
      have hs4 := ht.size
      clear hrd ht HR3 HT3 HZ3 HO3
      obtain ⟨Y, rfl⟩ : ∃ Y : Nat, y = Y := ⟨y.toNat, by omega⟩
      obtain ⟨P, hP⟩ : ∃ P : Nat, Y / 8 = P := ⟨_, rfl⟩
      have hP1 : P ≤ 1 := by omega
      have hqd : Int.tdiv (Y : Int) 8 = (P : Int) := by rw [← hP]; rfl
      have hw1 : IntKind.i64.wrap (P : Int) = (P : Int) := IntWalk.i64_in _ (by omega)
      have hw2 : IntKind.i64.wrap (x - (P : Int)) = x - (P : Int) := IntWalk.i64_in _ (by omega)
      obtain ⟨v, hv⟩ : ∃ v, x - (P : Int) = v := ⟨_, rfl⟩
      have HR5 := Lib.hid (HR4.out.below ((Below.refl w4.heap.size w4).alloc (Nat.le_refl _) (.cells #[.int .i64 v] 3)))
      have HT5 := Lib.hid (HT4.out.then_ ((Below.refl w4.heap.size w4).alloc (Nat.le_refl _) (.cells #[.int .i64 v] 3)))
      have HZ5 := Lib.hid (HZ4.out.alloc (.cells #[.int .i64 v] 3))
      have HO5 := Lib.hid (HO4.out.below ((Below.refl w4.heap.size w4).alloc (Nat.le_refl _) (.cells #[.int .i64 v] 3)))
      have HN5 := Lib.hid (Box.new w4 #[.int .i64 v] 3)
      have HS5 := Lib.hid (show (w4.alloc (.cells #[.int .i64 v] 3)).heap.size = w4.heap.size + 1 from World.size_alloc ..)
      clear HR4 HT4 HZ4 HO4 hP
      go_wp2_with (at_builtin
                   (try rw [hv])
                   refine wpList_append_lies _ rfl (.tmp 16) (.tmp 23) 26 rfl B 3 i0 (.int .i64 0) 1 8 Try.underlying26 HIN.out HZ0.out HZ1.out HZ2.out rfl (by decide) (.slice (some ⟨b, 0, none⟩) m d) m (L.flatMap elI.C) ?hs ?hown ⟨w4.heap.size, 0, none⟩ 1 1 [.int .i64 v] ?hx rfl ?hnews ?hone (by decide) ?h63 ?hby ?hba (w4.heap.size + 1) ?hH ?_
                   case hs => rfl
                   case hown => have h := HO5.out; unfold OwnE at h; rw [HM.out] at h; exact h
                   case hx => rfl
                   case hnews => exact World.news_of_block HN5.out
                   case hone => intro u hu; rw [List.mem_singleton.1 hu]; rfl
                   case h63 => simp only [maxLen]; omega
                   case hby => omega
                   case hba => have := HS5.out; omega
                   case hH => exact HS5.out
                   intro b9 cap w9 hown hgr hat hlt
                   have HO9 := Lib.hid (show OwnE elI 3 w9 B (.slice (some ⟨b9, 0, none⟩) (L ++ [v]).length cap) (L ++ [v]) from by
                     unfold OwnE
                     rw [List.length_append, HM.out, List.flatMap_append]
                     exact hown)
                   have hbl := (Below.refl B (w4.alloc (.cells #[.int .i64 v] 3))).grown hgr (by have := HS5.out; omega) (fun j e => (HO5.out.ltv j e).1)
                   have HB9 := Lib.hid hbl
                   have hBs := hbl.size
                   clear hown hgr hat hbl hlt)
      go_roundw
      case rel =>
        have hT9 := HT5.out.low_ (w2 := w9) (by rw [HBE.out]; exact HB9.out)
        have hG := HG.out
        refine ⟨k - 1, b9, cap, L ++ [v], q + 1 + 1, by rw [show ((k : Int) - 1) = ((k - 1 : Nat) : Int) by omega], by rw [List.length_append, HM.out]; rfl, by rw [List.length_append, HM.out, List.length_singleton]; omega, by omega, ?_, HO9.out, hT9, ?_, by have := HS5.out; omega⟩
        · exact HR1.out.of_touch hT9 ((HB9.out.block (w.heap.size + 1) hG).trans HR5.out.box) HR5.out.p0 HR5.out.p1
        · exact (HB9.out.block w.heap.size (by omega)).trans HZ5.out
      case measure => simp [intOf]; omega
    · obtain rfl : k = 0 := by omega
      clear hk
      have HK := Lib.hid (show q ≤ 90 ∧ m ≤ 39 from by omega)
      have hq9 := HR.out.p0
      go_wp2_with fail
      refine (lock_any HR.out (by omega)).mono ?_
      rintro e w5 ⟨g0, d1, A2, d2, D, fp, q5, rfl, hm, hf, hsz, hrd, hq5, ht⟩
      have HM5 := Lib.hid hm
      have HF := Lib.hid hf
      have HSZ := Lib.hid hsz
      have HT5 := Lib.hid (HT.out.trans ht)
      have Z_5 := Lib.hid (ht.box HZB.out (fun a e => by injection e with e; subst e; show w.heap.size ≠ w.heap.size + 1; omega))
      have HO5 := Lib.hid (HO.out.framed fun b e => ht.block b (HO.out.ltv b e).2 fun _ a e2 => by injection e2 with e2; subst e2; have h1 := (HO.out.ltv b e).1; have h2 := HG.out; show b ≠ w.heap.size + 1; omega)
      have HWW := Lib.hid (show w.heap.size < wr.heap.size from HZB.out.lt)
      have hb0 := (HO5.out.ltv b rfl).1
      clear hm hf hsz hrd hq5 ht
      have z0 := Z_5.out.cell 0
      have z1 := Z_5.out.cell 1
      have z2 := Z_5.out.cell 2
      have e0 := Z_5.out.frz 0
      have e1 := Z_5.out.frz 1
      have e2 := Z_5.out.frz 2
      have zl := Z_5.out.lt
      simp at z0 z1 z2
      go_wp2_with fail
      have HO6 := Lib.hid (((HO5.out.off ⟨w.heap.size, 0, none⟩ (.int .i64 D.1) (fun g e => by have h1 := (HO5.out.ltv g e).1; have h2 := HG.out; show g ≠ w.heap.size; omega)).off ⟨w.heap.size, 1, none⟩ (.slice (some ⟨g0, 0, none⟩) D.2.1.length d1) (fun g e => by have h1 := (HO5.out.ltv g e).1; have h2 := HG.out; show g ≠ w.heap.size; omega)).off ⟨w.heap.size, 2, none⟩ (.slice A2 D.2.2.length d2) (fun g e => by have h1 := (HO5.out.ltv g e).1; have h2 := HG.out; show g ≠ w.heap.size; omega))
      have hcp := HO6.out.cap
      have hrf := OwnE.rowF HO6.out
      have hlt6 := (HO6.out.ltv b rfl).2
      rw [HM.out] at hcp hrf
      exact bodyPost_ret (v := .tuple #[.agg #[.int .i64 D.1, .slice (some ⟨g0, 0, none⟩) D.2.1.length d1, .slice A2 D.2.2.length d2], .slice (some ⟨b, 0, none⟩) m d]) (by simp [results, Try.results32, go_sem, z0, z1, z2]) rfl ⟨g0, d1, A2, d2, D, fp, b, m, d, L, rfl, (tyLock.mframe (tyLock.mframe (tyLock.mframe HM5.out fun b hb => heap_setCell_other _ ⟨w.heap.size, 0, none⟩ b _ (by have h := HF.out b hb; have h2 := HWW.out; show b ≠ w.heap.size; omega)) fun b hb => heap_setCell_other _ ⟨w.heap.size, 1, none⟩ b _ (by have h := HF.out b hb; have h2 := HWW.out; show b ≠ w.heap.size; omega)) fun b hb => heap_setCell_other _ ⟨w.heap.size, 2, none⟩ b _ (by have h := HF.out b hb; have h2 := HWW.out; show b ≠ w.heap.size; omega)), (fun b hb => by have h := HF.out b hb; have h2 := HWW.out; simp only [World.size_setCell]; omega), HSZ.out, ⟨hrf, HM.out, HK.out.2, hcp, hlt6⟩, ((((HB1.out.trans (HT5.out.low (lo := w.heap.size) (by omega) (by omega))).setCell (p := ⟨w.heap.size, 0, none⟩) (by show w.heap.size ≤ w.heap.size; omega) _).setCell (p := ⟨w.heap.size, 1, none⟩) (by show w.heap.size ≤ w.heap.size; omega) _).setCell (p := ⟨w.heap.size, 2, none⟩) (by show w.heap.size ≤ w.heap.size; omega) _)⟩
end
end Go.Proofs.Ytpnlmdnjpcjhjaa

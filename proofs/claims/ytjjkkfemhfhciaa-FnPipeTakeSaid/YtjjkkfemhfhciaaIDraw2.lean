/-
  What the laws of chapter 9 draw.
-/
import Derived.Test.YtjjkkfemhfhciaaIDraw
namespace Go.Proofs.Ytjjkkfemhfhciaa
open Go.RowKit

section
variable {A : Option Addr} {n c : Nat} {w : World}
def DDrawPipeOk (w : World) (e : Ending) (w' : World) : Prop := ∃ (t : ByteArray) (r k : Int), e = .returned (.agg #[.string t, .int .i64 r, .int .i64 k]) ∧ t.size ≤ 9 ∧ (-1 ≤ r ∧ r ≤ 100) ∧ (-1 ≤ k ∧ k ≤ 100) ∧ Below w.heap.size w w'
set_option maxHeartbeats 1000000 in
theorem dDrawPipeOk_any (hc : Code w A n) (hcap : n ≤ c) (hcap2 : c ≤ maxLen) : Calls Try.prog 18 #[.slice A n c] w (DDrawPipeOk w) := by
  have HC := Lib.hid hc
  clear hc
  have HB0 := Lib.hid (show Below w.heap.size w (w.alloc (.cells #[.string ⟨#[]⟩, .int .i64 0, .int .i64 0] 24)) from (Below.refl _ _).alloc (Nat.le_refl _) _)
  have Z0 := Lib.hid (Box.new w #[.string ⟨#[]⟩, .int .i64 0, .int .i64 0] 24)
  go_enter Try.func18, Try.ntmps18
  go_wp2_with fail
  refine (open_any (HC.out.below HB0.out) hcap hcap2).mono ?_
  rintro e w1 ⟨A', n', c', rfl, hrd, hb1⟩
  simp only [World.size_alloc] at hrd hb1 ⊢
  have HR1 := Lib.hid hrd
  have Z1 := Lib.hid (Z0.out.below hb1 (Nat.lt_succ_self _))
  have HB1 := Lib.hid (HB0.out.trans (hb1.mono (Nat.le_succ _)))
  clear hrd hb1
  generalize hGe : w.heap.size + 1 = G at HR1
  have hG : w.heap.size < G := by omega
  have hGn : ¬ (w.heap.size = G) := by omega
  clear hGe
  go_wp2_with fail
  refine (pipe_any HR1.out (by omega)).mono ?_
  rintro e w2 ⟨t, r, k, q, rfl, ts, hr, hk, hrd2, hq2, ht2⟩
  have HR2 := Lib.hid hrd2
  have Z2 := Lib.hid (ht2.box Z1.out (fun a e => by injection e with e; subst e; exact hGn))
  have HB2 := Lib.hid (HB1.out.trans (ht2.low HB1.out.size (Nat.le_of_lt hG)))
  have HK := Lib.hid (And.intro hr hk)
  clear hrd2 ht2 hr hk
  have z0 := Z2.out.cell 0
  have z1 := Z2.out.cell 1
  have z2 := Z2.out.cell 2
  have zf0 := Z2.out.frz 0
  have zf1 := Z2.out.frz 1
  have zf2 := Z2.out.frz 2
  have zl := Z2.out.lt
  simp at z0 z1 z2
  go_wp2_with fail
  exact bodyPost_ret (v := .agg #[.string t, .int .i64 r, .int .i64 k]) (by simp [results, Try.results18, go_sem, z0, z1, z2]) rfl ⟨t, r, k, rfl, ts, HK.out.1, HK.out.2, (by repeat (first | exact HB2.out | refine Below.setCell ?_ (by first | exact Nat.le_refl _ | (dsimp only; omega) | omega) _ | refine Below.alloc ?_ (by first | exact Nat.le_refl _ | (dsimp only; omega) | omega) _ | refine Below.drew ?_))⟩

def DDrawPipePut (w : World) (e : Ending) (w' : World) : Prop := ∃ (t : ByteArray) (r k : Int) (x : ByteArray), e = .returned (.tuple #[.agg #[.string t, .int .i64 r, .int .i64 k], .string x]) ∧ t.size ≤ 9 ∧ (-1 ≤ r ∧ r ≤ 100) ∧ (-1 ≤ k ∧ k ≤ 100) ∧ x.size ≤ 12 ∧ Below w.heap.size w w'
set_option maxHeartbeats 1000000 in
theorem dDrawPipePut_any (hc : Code w A n) (hcap : n ≤ c) (hcap2 : c ≤ maxLen) : Calls Try.prog 23 #[.slice A n c] w (DDrawPipePut w) := by
  have HC := Lib.hid hc
  clear hc
  have HB0 := Lib.hid (show Below w.heap.size w (w.alloc (.cells #[.string ⟨#[]⟩, .int .i64 0, .int .i64 0] 24)) from (Below.refl _ _).alloc (Nat.le_refl _) _)
  have Z0 := Lib.hid (Box.new w #[.string ⟨#[]⟩, .int .i64 0, .int .i64 0] 24)
  go_enter Try.func23, Try.ntmps23
  go_wp2_with fail
  refine (open_any (HC.out.below HB0.out) hcap hcap2).mono ?_
  rintro e w1 ⟨A', n', c', rfl, hrd, hb1⟩
  simp only [World.size_alloc] at hrd hb1 ⊢
  have HR1 := Lib.hid hrd
  have Z1 := Lib.hid (Z0.out.below hb1 (Nat.lt_succ_self _))
  have HB1 := Lib.hid (HB0.out.trans (hb1.mono (Nat.le_succ _)))
  clear hrd hb1
  generalize hGe : w.heap.size + 1 = G at HR1
  have hG : w.heap.size < G := by omega
  have hGn : ¬ (w.heap.size = G) := by omega
  clear hGe
  go_wp2_with fail
  refine (pipe_any HR1.out (by omega)).mono ?_
  rintro e w2 ⟨t, r, k, q, rfl, ts, hr, hk, hrd2, hq2, ht2⟩
  have HR2 := Lib.hid hrd2
  have Z2 := Lib.hid (ht2.box Z1.out (fun a e => by injection e with e; subst e; exact hGn))
  have HB2 := Lib.hid (HB1.out.trans (ht2.low HB1.out.size (Nat.le_of_lt hG)))
  have HK := Lib.hid (And.intro hr hk)
  clear hrd2 ht2 hr hk
  have hq0 := HR2.out.p0
  go_wp2_with fail
  refine (text_any 12 (by omega) (by omega) HR2.out (by omega)).mono ?_
  rintro e w3 ⟨x, q3, rfl, xs, _, _, ht3⟩
  have Z3 := Lib.hid (ht3.box Z2.out (fun a e => by injection e with e; subst e; exact hGn))
  have HB3 := Lib.hid (HB2.out.trans (ht3.low HB2.out.size (Nat.le_of_lt hG)))
  clear ht3
  have xs' : x.size ≤ 12 := by omega
  have z0 := Z3.out.cell 0
  have z1 := Z3.out.cell 1
  have z2 := Z3.out.cell 2
  have zf0 := Z3.out.frz 0
  have zf1 := Z3.out.frz 1
  have zf2 := Z3.out.frz 2
  have zl := Z3.out.lt
  simp at z0 z1 z2
  go_wp2_with fail
  exact bodyPost_ret (v := .tuple #[.agg #[.string t, .int .i64 r, .int .i64 k], .string x]) (by simp [results, Try.results23, go_sem, z0, z1, z2]) rfl ⟨t, r, k, x, rfl, ts, HK.out.1, HK.out.2, xs', (by repeat (first | exact HB3.out | refine Below.setCell ?_ (by first | exact Nat.le_refl _ | (dsimp only; omega) | omega) _ | refine Below.alloc ?_ (by first | exact Nat.le_refl _ | (dsimp only; omega) | omega) _ | refine Below.drew ?_))⟩

def DDrawPipeTake (w : World) (e : Ending) (w' : World) : Prop := ∃ (t : ByteArray) (r k : Int) (m : Int), e = .returned (.tuple #[.agg #[.string t, .int .i64 r, .int .i64 k], .int .i64 m]) ∧ t.size ≤ 9 ∧ (-1 ≤ r ∧ r ≤ 100) ∧ (-1 ≤ k ∧ k ≤ 100) ∧ -1 ≤ m ∧ m ≤ 10 ∧ Below w.heap.size w w'
set_option maxHeartbeats 1000000 in
theorem dDrawPipeTake_any (hc : Code w A n) (hcap : n ≤ c) (hcap2 : c ≤ maxLen) : Calls Try.prog 26 #[.slice A n c] w (DDrawPipeTake w) := by
  have HC := Lib.hid hc
  clear hc
  have HB0 := Lib.hid (show Below w.heap.size w (w.alloc (.cells #[.string ⟨#[]⟩, .int .i64 0, .int .i64 0] 24)) from (Below.refl _ _).alloc (Nat.le_refl _) _)
  have Z0 := Lib.hid (Box.new w #[.string ⟨#[]⟩, .int .i64 0, .int .i64 0] 24)
  go_enter Try.func26, Try.ntmps26
  go_wp2_with fail
  refine (open_any (HC.out.below HB0.out) hcap hcap2).mono ?_
  rintro e w1 ⟨A', n', c', rfl, hrd, hb1⟩
  simp only [World.size_alloc] at hrd hb1 ⊢
  have HR1 := Lib.hid hrd
  have Z1 := Lib.hid (Z0.out.below hb1 (Nat.lt_succ_self _))
  have HB1 := Lib.hid (HB0.out.trans (hb1.mono (Nat.le_succ _)))
  clear hrd hb1
  generalize hGe : w.heap.size + 1 = G at HR1
  have hG : w.heap.size < G := by omega
  have hGn : ¬ (w.heap.size = G) := by omega
  clear hGe
  go_wp2_with fail
  refine (pipe_any HR1.out (by omega)).mono ?_
  rintro e w2 ⟨t, r, k, q, rfl, ts, hr, hk, hrd2, hq2, ht2⟩
  have HR2 := Lib.hid hrd2
  have Z2 := Lib.hid (ht2.box Z1.out (fun a e => by injection e with e; subst e; exact hGn))
  have HB2 := Lib.hid (HB1.out.trans (ht2.low HB1.out.size (Nat.le_of_lt hG)))
  have HK := Lib.hid (And.intro hr hk)
  clear hrd2 ht2 hr hk
  have hq0 := HR2.out.p0
  go_wp2_with fail
  refine (pick2_any 12 (by omega) (by omega) HR2.out (by omega)).mono ?_
  rintro e w3 ⟨m, rfl, m0, m1, _, ht3⟩
  have Z3 := Lib.hid (ht3.box Z2.out (fun a e => by injection e with e; subst e; exact hGn))
  have HB3 := Lib.hid (HB2.out.trans (ht3.low HB2.out.size (Nat.le_of_lt hG)))
  clear ht3
  have z0 := Z3.out.cell 0
  have z1 := Z3.out.cell 1
  have z2 := Z3.out.cell 2
  have zf0 := Z3.out.frz 0
  have zf1 := Z3.out.frz 1
  have zf2 := Z3.out.frz 2
  have zl := Z3.out.lt
  simp at z0 z1 z2
  go_wp2_with fail
  exact bodyPost_ret (v := .tuple #[.agg #[.string t, .int .i64 r, .int .i64 k], .int .i64 (m - 1)]) (by simp [results, Try.results26, go_sem, z0, z1, z2]) rfl ⟨t, r, k, m - 1, rfl, ts, HK.out.1, HK.out.2, by omega, by omega, (by repeat (first | exact HB3.out | refine Below.setCell ?_ (by first | exact Nat.le_refl _ | (dsimp only; omega) | omega) _ | refine Below.alloc ?_ (by first | exact Nat.le_refl _ | (dsimp only; omega) | omega) _ | refine Below.drew ?_))⟩

def DDrawPipeJoin (w : World) (e : Ending) (w' : World) : Prop := ∃ (t : ByteArray) (r k : Int) (b : Bool), e = .returned (.tuple #[.agg #[.string t, .int .i64 r, .int .i64 k], .bool b]) ∧ t.size ≤ 9 ∧ (-1 ≤ r ∧ r ≤ 100) ∧ (-1 ≤ k ∧ k ≤ 100) ∧ Below w.heap.size w w'
set_option maxHeartbeats 1000000 in
theorem dDrawPipeJoin_any (hc : Code w A n) (hcap : n ≤ c) (hcap2 : c ≤ maxLen) : Calls Try.prog 29 #[.slice A n c] w (DDrawPipeJoin w) := by
  have HC := Lib.hid hc
  clear hc
  have HB0 := Lib.hid (show Below w.heap.size w (w.alloc (.cells #[.string ⟨#[]⟩, .int .i64 0, .int .i64 0] 24)) from (Below.refl _ _).alloc (Nat.le_refl _) _)
  have Z0 := Lib.hid (Box.new w #[.string ⟨#[]⟩, .int .i64 0, .int .i64 0] 24)
  go_enter Try.func29, Try.ntmps29
  go_wp2_with fail
  refine (open_any (HC.out.below HB0.out) hcap hcap2).mono ?_
  rintro e w1 ⟨A', n', c', rfl, hrd, hb1⟩
  simp only [World.size_alloc] at hrd hb1 ⊢
  have HR1 := Lib.hid hrd
  have Z1 := Lib.hid (Z0.out.below hb1 (Nat.lt_succ_self _))
  have HB1 := Lib.hid (HB0.out.trans (hb1.mono (Nat.le_succ _)))
  clear hrd hb1
  generalize hGe : w.heap.size + 1 = G at HR1
  have hG : w.heap.size < G := by omega
  have hGn : ¬ (w.heap.size = G) := by omega
  clear hGe
  go_wp2_with fail
  refine (pipe_any HR1.out (by omega)).mono ?_
  rintro e w2 ⟨t, r, k, q, rfl, ts, hr, hk, hrd2, hq2, ht2⟩
  have HR2 := Lib.hid hrd2
  have Z2 := Lib.hid (ht2.box Z1.out (fun a e => by injection e with e; subst e; exact hGn))
  have HB2 := Lib.hid (HB1.out.trans (ht2.low HB1.out.size (Nat.le_of_lt hG)))
  have HK := Lib.hid (And.intro hr hk)
  clear hrd2 ht2 hr hk
  have hq0 := HR2.out.p0
  go_wp2_with fail
  refine (pick2_any 2 (by omega) (by omega) HR2.out (by omega)).mono ?_
  rintro e w3 ⟨m, rfl, m0, m1, _, ht3⟩
  have Z3 := Lib.hid (ht3.box Z2.out (fun a e => by injection e with e; subst e; exact hGn))
  have HB3 := Lib.hid (HB2.out.trans (ht3.low HB2.out.size (Nat.le_of_lt hG)))
  clear ht3
  have z0 := Z3.out.cell 0
  have z1 := Z3.out.cell 1
  have z2 := Z3.out.cell 2
  have zf0 := Z3.out.frz 0
  have zf1 := Z3.out.frz 1
  have zf2 := Z3.out.frz 2
  have zl := Z3.out.lt
  simp at z0 z1 z2
  by_cases hm : m = 0
  · subst hm
    go_wp2_with fail
    exact bodyPost_ret (v := .tuple #[.agg #[.string t, .int .i64 r, .int .i64 k], .bool true]) (by simp [results, Try.results29, go_sem, z0, z1, z2]) rfl ⟨t, r, k, true, rfl, ts, HK.out.1, HK.out.2, (by repeat (first | exact HB3.out | refine Below.setCell ?_ (by first | exact Nat.le_refl _ | (dsimp only; omega) | omega) _ | refine Below.alloc ?_ (by first | exact Nat.le_refl _ | (dsimp only; omega) | omega) _ | refine Below.drew ?_))⟩
  · have hm' : (m == 0) = false := by rw [beq_eq_false_iff_ne]; exact hm
    clear hm
    go_wp2_with fail
    exact bodyPost_ret (v := .tuple #[.agg #[.string t, .int .i64 r, .int .i64 k], .bool false]) (by simp [results, Try.results29, go_sem, z0, z1, z2]) rfl ⟨t, r, k, false, rfl, ts, HK.out.1, HK.out.2, (by repeat (first | exact HB3.out | refine Below.setCell ?_ (by first | exact Nat.le_refl _ | (dsimp only; omega) | omega) _ | refine Below.alloc ?_ (by first | exact Nat.le_refl _ | (dsimp only; omega) | omega) _ | refine Below.drew ?_))⟩

def DDrawPipeLeave (w : World) (e : Ending) (w' : World) : Prop := ∃ (t : ByteArray) (r k : Int) (b : Bool), e = .returned (.tuple #[.agg #[.string t, .int .i64 r, .int .i64 k], .bool b]) ∧ t.size ≤ 9 ∧ (-1 ≤ r ∧ r ≤ 100) ∧ (-1 ≤ k ∧ k ≤ 100) ∧ Below w.heap.size w w'
set_option maxHeartbeats 1000000 in
theorem dDrawPipeLeave_any (hc : Code w A n) (hcap : n ≤ c) (hcap2 : c ≤ maxLen) : Calls Try.prog 31 #[.slice A n c] w (DDrawPipeLeave w) := by
  have HC := Lib.hid hc
  clear hc
  have HB0 := Lib.hid (show Below w.heap.size w (w.alloc (.cells #[.string ⟨#[]⟩, .int .i64 0, .int .i64 0] 24)) from (Below.refl _ _).alloc (Nat.le_refl _) _)
  have Z0 := Lib.hid (Box.new w #[.string ⟨#[]⟩, .int .i64 0, .int .i64 0] 24)
  go_enter Try.func31, Try.ntmps31
  go_wp2_with fail
  refine (open_any (HC.out.below HB0.out) hcap hcap2).mono ?_
  rintro e w1 ⟨A', n', c', rfl, hrd, hb1⟩
  simp only [World.size_alloc] at hrd hb1 ⊢
  have HR1 := Lib.hid hrd
  have Z1 := Lib.hid (Z0.out.below hb1 (Nat.lt_succ_self _))
  have HB1 := Lib.hid (HB0.out.trans (hb1.mono (Nat.le_succ _)))
  clear hrd hb1
  generalize hGe : w.heap.size + 1 = G at HR1
  have hG : w.heap.size < G := by omega
  have hGn : ¬ (w.heap.size = G) := by omega
  clear hGe
  go_wp2_with fail
  refine (pipe_any HR1.out (by omega)).mono ?_
  rintro e w2 ⟨t, r, k, q, rfl, ts, hr, hk, hrd2, hq2, ht2⟩
  have HR2 := Lib.hid hrd2
  have Z2 := Lib.hid (ht2.box Z1.out (fun a e => by injection e with e; subst e; exact hGn))
  have HB2 := Lib.hid (HB1.out.trans (ht2.low HB1.out.size (Nat.le_of_lt hG)))
  have HK := Lib.hid (And.intro hr hk)
  clear hrd2 ht2 hr hk
  have hq0 := HR2.out.p0
  go_wp2_with fail
  refine (pick2_any 2 (by omega) (by omega) HR2.out (by omega)).mono ?_
  rintro e w3 ⟨m, rfl, m0, m1, _, ht3⟩
  have Z3 := Lib.hid (ht3.box Z2.out (fun a e => by injection e with e; subst e; exact hGn))
  have HB3 := Lib.hid (HB2.out.trans (ht3.low HB2.out.size (Nat.le_of_lt hG)))
  clear ht3
  have z0 := Z3.out.cell 0
  have z1 := Z3.out.cell 1
  have z2 := Z3.out.cell 2
  have zf0 := Z3.out.frz 0
  have zf1 := Z3.out.frz 1
  have zf2 := Z3.out.frz 2
  have zl := Z3.out.lt
  simp at z0 z1 z2
  by_cases hm : m = 0
  · subst hm
    go_wp2_with fail
    exact bodyPost_ret (v := .tuple #[.agg #[.string t, .int .i64 r, .int .i64 k], .bool true]) (by simp [results, Try.results31, go_sem, z0, z1, z2]) rfl ⟨t, r, k, true, rfl, ts, HK.out.1, HK.out.2, (by repeat (first | exact HB3.out | refine Below.setCell ?_ (by first | exact Nat.le_refl _ | (dsimp only; omega) | omega) _ | refine Below.alloc ?_ (by first | exact Nat.le_refl _ | (dsimp only; omega) | omega) _ | refine Below.drew ?_))⟩
  · have hm' : (m == 0) = false := by rw [beq_eq_false_iff_ne]; exact hm
    clear hm
    go_wp2_with fail
    exact bodyPost_ret (v := .tuple #[.agg #[.string t, .int .i64 r, .int .i64 k], .bool false]) (by simp [results, Try.results31, go_sem, z0, z1, z2]) rfl ⟨t, r, k, false, rfl, ts, HK.out.1, HK.out.2, (by repeat (first | exact HB3.out | refine Below.setCell ?_ (by first | exact Nat.le_refl _ | (dsimp only; omega) | omega) _ | refine Below.alloc ?_ (by first | exact Nat.le_refl _ | (dsimp only; omega) | omega) _ | refine Below.drew ?_))⟩

def DDrawPipeReady (w : World) (e : Ending) (w' : World) : Prop := ∃ (t : ByteArray) (r k : Int), e = .returned (.agg #[.string t, .int .i64 r, .int .i64 k]) ∧ t.size ≤ 9 ∧ (-1 ≤ r ∧ r ≤ 100) ∧ (-1 ≤ k ∧ k ≤ 100) ∧ Below w.heap.size w w'
set_option maxHeartbeats 1000000 in
theorem dDrawPipeReady_any (hc : Code w A n) (hcap : n ≤ c) (hcap2 : c ≤ maxLen) : Calls Try.prog 33 #[.slice A n c] w (DDrawPipeReady w) := by
  have HC := Lib.hid hc
  clear hc
  have HB0 := Lib.hid (show Below w.heap.size w (w.alloc (.cells #[.string ⟨#[]⟩, .int .i64 0, .int .i64 0] 24)) from (Below.refl _ _).alloc (Nat.le_refl _) _)
  have Z0 := Lib.hid (Box.new w #[.string ⟨#[]⟩, .int .i64 0, .int .i64 0] 24)
  go_enter Try.func33, Try.ntmps33
  go_wp2_with fail
  refine (open_any (HC.out.below HB0.out) hcap hcap2).mono ?_
  rintro e w1 ⟨A', n', c', rfl, hrd, hb1⟩
  simp only [World.size_alloc] at hrd hb1 ⊢
  have HR1 := Lib.hid hrd
  have Z1 := Lib.hid (Z0.out.below hb1 (Nat.lt_succ_self _))
  have HB1 := Lib.hid (HB0.out.trans (hb1.mono (Nat.le_succ _)))
  clear hrd hb1
  generalize hGe : w.heap.size + 1 = G at HR1
  have hG : w.heap.size < G := by omega
  have hGn : ¬ (w.heap.size = G) := by omega
  clear hGe
  go_wp2_with fail
  refine (pipe_any HR1.out (by omega)).mono ?_
  rintro e w2 ⟨t, r, k, q, rfl, ts, hr, hk, hrd2, hq2, ht2⟩
  have HR2 := Lib.hid hrd2
  have Z2 := Lib.hid (ht2.box Z1.out (fun a e => by injection e with e; subst e; exact hGn))
  have HB2 := Lib.hid (HB1.out.trans (ht2.low HB1.out.size (Nat.le_of_lt hG)))
  have HK := Lib.hid (And.intro hr hk)
  clear hrd2 ht2 hr hk
  have z0 := Z2.out.cell 0
  have z1 := Z2.out.cell 1
  have z2 := Z2.out.cell 2
  have zf0 := Z2.out.frz 0
  have zf1 := Z2.out.frz 1
  have zf2 := Z2.out.frz 2
  have zl := Z2.out.lt
  simp at z0 z1 z2
  go_wp2_with fail
  exact bodyPost_ret (v := .agg #[.string t, .int .i64 r, .int .i64 k]) (by simp [results, Try.results33, go_sem, z0, z1, z2]) rfl ⟨t, r, k, rfl, ts, HK.out.1, HK.out.2, (by repeat (first | exact HB2.out | refine Below.setCell ?_ (by first | exact Nat.le_refl _ | (dsimp only; omega) | omega) _ | refine Below.alloc ?_ (by first | exact Nat.le_refl _ | (dsimp only; omega) | omega) _ | refine Below.drew ?_))⟩

end
end Go.Proofs.Ytjjkkfemhfhciaa

/-
  Locks: the program's walk.
-/
import Derived.Test.YtpmigekejipohaaLIg
import Derived.Test.YtpmigekejipohaaLS6
import Derived.WalkMore
namespace Go.Proofs.Ytpmigekejipohaa
open Go.RowKit

section
variable {D : Lk} {i : Nat}
theorem stepD_take0 (h : (th D i).f0 = 0) : stepD D i = tkD D i 1 := by
  unfold stepD tkD
  dsimp only
  rw [if_pos (Or.inl h), h]
  rfl
theorem stepD_take3 (h : (th D i).f0 = 3) : stepD D i = tkD D i 2 := by
  unfold stepD tkD
  dsimp only
  rw [if_pos (Or.inr h), h]
  rfl
theorem stepD_mark (h : (th D i).f0 = 1) : stepD D i = mkD D i := by
  unfold stepD mkD
  dsimp only
  rw [if_neg (by omega), if_pos h]
theorem stepD_doze (h : (th D i).f0 = 2) : stepD D i = dzD D i := by
  unfold stepD dzD
  dsimp only
  rw [if_neg (by omega), if_neg (by omega), if_pos h]
theorem stepD_leave (h : (th D i).f0 = 4) (hw : 0 ≤ D.1 ∧ D.1 ≤ 2) : stepD D i = lvD D i := by
  unfold stepD lvD
  dsimp only
  rw [if_neg (by omega), if_neg (by omega), if_neg (by omega), if_pos h]
  by_cases h2 : D.1 = 2
  · rw [if_neg (by omega), if_pos h2, h2]
    rfl
  · rw [if_pos (by omega), if_neg h2]
theorem stepD_free (h : (th D i).f0 = 5) : stepD D i = putT D 0 i ⟨6, (th D i).f1, (th D i).f2, (th D i).f3⟩ D.2.2 := by
  unfold stepD
  dsimp only
  rw [if_neg (by omega), if_neg (by omega), if_neg (by omega), if_neg (by omega), if_pos h]
theorem wkD_len : (wkD D).2.1.length = D.2.1.length := by
  unfold wkD
  split
  · rfl
  · dsimp only; exact List.length_set
theorem wkD_th (hok : LOk D) (h : (th D i).f0 = 6) : th (wkD D) i = th D i := by
  unfold wkD
  split
  · rfl
  · rename_i x r hl
    have hx := hok.rng x (by rw [hl]; exact List.mem_cons_self)
    have hxt := (hok.t x.toNat (by omega))
    have hm : (x.toNat : Int) ∈ D.2.2 := by rw [Int.toNat_of_nonneg hx.1, hl]; exact List.mem_cons_self
    have h3 := hxt.z (hxt.l.2 hm)
    have hne : i ≠ x.toNat := fun e => by rw [← e] at h3; omega
    rw [show (D.1, D.2.1.set x.toNat ⟨(th D x.toNat).f0, (th D x.toNat).f1, (th D x.toNat).f2, false⟩, r) = putT D D.1 x.toNat ⟨(th D x.toNat).f0, (th D x.toNat).f1, (th D x.toNat).f2, false⟩ r from rfl, th_put (by omega), if_neg hne]
theorem stepD_wake (hok : LOk D) (h : (th D i).f0 = 6) : stepD D i = putT (wkD D) (wkD D).1 i ⟨0, (th (wkD D) i).f1, (th (wkD D) i).f2 - 1, (th (wkD D) i).f3⟩ (wkD D).2.2 := by
  rw [wkD_th hok h]
  clear hok
  obtain ⟨W, l, L⟩ := D
  unfold stepD
  dsimp only
  rw [if_neg (by omega), if_neg (by omega), if_neg (by omega), if_neg (by omega), if_neg (by omega)]
  cases L <;> rfl
theorem canB_of (hok : TOk D.2.2 i (th D i)) (h : (th D i).f0 ≠ 0) (h3 : (th D i).f3 = false) : canB D i = true := by
  have := hok.a
  exact can_iff.2 ⟨h3, Or.inl (by omega)⟩
theorem awake_of (hok : TOk D.2.2 i (th D i)) (h : (th D i).f0 ≠ 3) : (th D i).f3 = false := by
  cases e : (th D i).f3
  · rfl
  · exact absurd (hok.z e) h
end
theorem Foot.wider {w w1 w2 : World} {fp fp2 : List Nat} (h : Foot w w1 fp) (h2 : Foot w1 w2 fp2) (hs : ∀ b ∈ fp2, b ∈ fp ∨ w.heap.size ≤ b) : Foot w w2 fp :=
  ⟨h2.os.trans h.os, h2.tape.trans h.tape, h2.output.trans h.output, Nat.le_trans h.size h2.size, fun k hk hm => (h2.block k (Nat.lt_of_lt_of_le hk h.size) fun hm2 => by
    rcases hs k hm2 with h3 | h3
    · exact hm h3
    · omega).trans (h.block k hk hm)⟩
/-- where the line lies that a lock has now, as against the one that it had at the beginning -/
def LiesL (w : World) (A A' : Option Addr) : Prop := ∀ a', A' = some a' → (∃ a, A = some a ∧ a'.block = a.block) ∨ w.heap.size ≤ a'.block
theorem LiesL.next {w w1 : World} {A A' A'' : Option Addr} (h : LiesL w A A') (h2 : LiesL w1 A' A'') (hs : w.heap.size ≤ w1.heap.size) : LiesL w A A'' := fun a e => by
  rcases h2 a e with ⟨a1, e1, e2⟩ | h3
  · rw [e2]
    exact h a1 e1
  · exact Or.inr (by omega)
theorem LiesL.foot {w w1 w2 : World} {A A' : Option Addr} {K g0 : Nat} (h : LiesL w A A') (hf : Foot w w1 (fpL K g0 A)) (hf2 : Foot w1 w2 (fpL K g0 A')) : Foot w w2 (fpL K g0 A) :=
  hf.wider hf2 fun b hb => by
    cases A' with
    | none =>
      rcases List.mem_cons.1 hb with rfl | hb
      · exact Or.inl fpL_K
      · rw [List.mem_singleton] at hb
        subst hb
        exact Or.inl fpL_g
    | some a' =>
      rcases List.mem_cons.1 hb with rfl | hb
      · exact Or.inl fpL_K
      · rcases List.mem_cons.1 hb with rfl | hb
        · exact Or.inl fpL_g
        · rw [List.mem_singleton] at hb
          subst hb
          rcases h a' rfl with ⟨a, e1, e2⟩ | h3
          · subst e1
            rw [e2]
            exact Or.inl fpL_a
          · exact Or.inr h3
/-- behind k of the order -/
def WRel (w : World) (D : Lk) (L : List Int) (K g0 c0 : Nat) (A : Option Addr) (base k : Nat) (cnt : Value) (wr : World) : Prop :=
  ∃ (Dk : Lk) (cn : Int) (A' : Option Addr) (c' : Nat), cnt = .int .i64 cn ∧ runTo D L k = (Dk, cn) ∧ PL wr Dk K g0 c0 A' c' base ∧ Foot w wr (fpL K g0 A) ∧ LiesL w A A'
/-- what walk answers -/
def WalkR (w : World) (D : Lk) (L : List Int) (m K g0 c0 : Nat) (A : Option Addr) (base : Nat) (e : Ending) (w' : World) : Prop :=
  ∃ A' c', e = .returned (.int .i64 (runTo D L m).2) ∧ PL w' (runTo D L m).1 K g0 c0 A' c' base ∧ Foot w w' (fpL K g0 A) ∧ LiesL w A A'
section
variable {w : World} {D : Lk} {K g0 c0 c base : Nat} {A : Option Addr}
set_option maxHeartbeats 16000000 in
set_option maxRecDepth 100000 in
theorem walk_any {B : Option Addr} {hi m cc : Nat} {L : List Int} (h : PL w D K g0 c0 A c base) (hok : LOk D) (hb : base ≤ w.heap.size) (hr : RowF elI w hi B m L) (hm : m ≤ 1048576) (hB : 0 < m → ∀ b, B = some b → b.block ∉ fpL K g0 A) :
    Calls Try.prog 60 #[.pointer (some ⟨K, 0, none⟩), .slice B m cc] w (WalkR w D L m K g0 c0 A base) := by
  have HOK0 := Lib.hid hok
  have HR := Lib.hid hr
  have HBB := Lib.hid hB
  have HBS := Lib.hid hb
  have HREL := Lib.hid (show WRel w D L K g0 c0 A base 0 (.int .i64 0) w from ⟨D, 0, A, c, rfl, rfl, h, Foot.refl w _, fun a e => Or.inl ⟨a, e, rfl⟩⟩)
  clear h hok hr hB
  go_enter Try.func60, Try.ntmps60
  go_wp2
  go_step3
  go_wp2
  go_step3
  go_wp2
  go_loopw [5, 11] (fun cnt i wr => ∃ k : Nat, k ≤ m ∧ i = .int .i64 k ∧ WRel w D L K g0 c0 A base k cnt wr) (fun _ i _ => m - (intOf i).toNat)
  case atStart => exact ⟨0, Nat.zero_le _, rfl, HREL.out⟩
  case round =>
    obtain ⟨k, hk, rfl, Dk, cn, A1, c1, rfl, hrun, hp, hf, hli⟩ := hrel
    have HRUN := Lib.hid hrun
    have HP := Lib.hid hp
    have HF := Lib.hid hf
    have HLI := Lib.hid hli
    have HOKk := Lib.hid (show LOk Dk ∧ Dk.2.1.length = D.2.1.length ∧ 0 ≤ cn ∧ cn ≤ k from by
      have h := run_ok (L := L) HOK0.out (k := k)
      rw [hrun] at h
      exact h)
    have HSO := Lib.hid (small_ok HOKk.out.1)
    have hcn := HOKk.out.2.2
    obtain ⟨n, hn⟩ : ∃ n, Dk.2.1.length = n := ⟨_, rfl⟩
    obtain ⟨n2, hn2⟩ : ∃ n2, Dk.2.2.length = n2 := ⟨_, rfl⟩
    obtain ⟨W, hW⟩ : ∃ W, Dk.1 = W := ⟨_, rfl⟩
    have HN := Lib.hid hn
    have HN2 := Lib.hid hn2
    have HW := Lib.hid hW
    have p0 := hp.box.cell 0
    have p1 := hp.box.cell 1
    have p2 := hp.box.cell 2
    have kl := hp.box.lt
    rw [hW, hn, hn2] at p0 p1 p2
    simp at p0 p1 p2
    clear HREL hrun hp hf hli hn hn2 hW
    by_cases hlt : k < m
    · obtain ⟨b, o, rfl, _, hb0, hcc⟩ := HR.out (by omega)
      have hk1 : (k : Int) < m := by omega
      have hk2 : (0 : Int) ≤ k := by omega
      have ox : wr.cell? ⟨b, o + k, none⟩ = some (.int .i64 (L.getD k 0)) := by
        have h := hcc k hlt 0 (by decide)
        rw [show o + k * elI.K + 0 = o + k from by show o + k * 1 + 0 = o + k; omega] at h
        exact (cell_of_block (HF.out.block b hb0 (HBB.out (by omega) _ rfl)) _).trans h
      have hbl : b < wr.heap.size := Nat.lt_of_lt_of_le hb0 HF.out.size
      have HSU := Lib.hid (runTo_succ D L k)
      rw [HRUN.out] at HSU
      dsimp only at HSU
      clear hcc
      obtain ⟨x, hx⟩ : ∃ x, L.getD k 0 = x := ⟨_, rfl⟩
      rw [hx] at ox HSU
      clear hx
      obtain ⟨mb, hmb⟩ : ∃ mb, inB x 0 ((n : Int) - 1) = mb := ⟨_, rfl⟩
      have HMY := Lib.hid (show mayL Dk x = mb from by unfold mayL; rw [HN.out]; exact hmb)
      have hcall := has_any (w := wr) (W := W) (A := some ⟨g0, 0, none⟩) (A2 := A1) (n := n) (c := c0) (n2 := n2) (c2 := c1) x (by have := HSO.out.2.1; rw [HN.out] at this; simp only [maxLen]; omega)
      rw [hmb] at hcall
      have HC := Lib.hid hcall
      have hw2 : IntKind.i64.wrap (cn + 1) = cn + 1 := IntWalk.i64_in _ (by omega)
      clear hmb hcall
      go_wp2_with fail
      refine HC.out.mono ?_
      rintro e w3 ⟨rfl, hb3⟩
      have HP3 := Lib.hid (HP.out.below HSO.out.2.2.2 hb3)
      have HF3 := Lib.hid (HF.out.trans (Foot.of_below hb3 _))
      have HS3 := Lib.hid (show w.heap.size ≤ w3.heap.size from HF3.out.size)
      clear hb3 p0 p1 p2 kl ox hbl
      cases mb
      · have HE := Lib.hid (show runTo D L (k + 1) = (Dk, cn) from by rw [HSU.out, if_neg (by rw [HMY.out]; rintro ⟨h, _⟩; cases h)])
        go_wp2_with fail
        go_roundw
        case rel => exact ⟨k + 1, by omega, by go_num, Dk, cn, A1, c1, rfl, HE.out, HP3.out, HF3.out, HLI.out⟩
        case measure => simp [intOf]; omega
      · obtain ⟨i, hin, rfl, hi3⟩ := may_iff.1 HMY.out
        have HIN := Lib.hid hin
        have HTO := Lib.hid (HOKk.out.1.t i hin)
        have hC := HP3.out.cells hin
        have HSV := Lib.hid (show runTo D L (k + 1) = if canB Dk i = true then (stepD Dk i, cn + 1) else (Dk, cn) from by
          rw [HSU.out, HMY.out, Int.toNat_natCast]
          simp only [true_and])
        obtain ⟨t, ht⟩ : ∃ t, th Dk i = t := ⟨_, rfl⟩
        have HTT := Lib.hid ht
        rw [ht, HW.out, HN.out, HN2.out] at hC
        rw [HN.out] at hin
        have hi1 : (i : Int) < n := by omega
        have hi2 : (0 : Int) ≤ i := by omega
        obtain ⟨p0, p1, p2, pf0, pf2, d0, d1, d2, d3, df0, df1, df2, df3, k1, k2, kl, gl⟩ := hC
        obtain ⟨t0, t1, t2, t3⟩ := t
        dsimp only at d0 d1 d2 d3
        have ha := HTO.out.a
        have hu := HTO.out.u
        rw [HTT.out] at ha hu
        dsimp only at ha hu
        clear HSU HMY hin hi3 ht
        rcases (by omega : t0 = 0 ∨ t0 = 1 ∨ t0 = 2 ∨ t0 = 3 ∨ t0 = 4 ∨ t0 = 5 ∨ t0 = 6) with rfl | rfl | rfl | rfl | rfl | rfl | rfl
        · by_cases h2 : t2 = 0
          · subst h2
            have HCB := Lib.hid (show canB Dk i = false from by
              cases e : canB Dk i
              · rfl
              · have h := can_iff.1 e
                rw [HTT.out] at h
                dsimp only at h
                omega)
            have HE := Lib.hid (show runTo D L (k + 1) = (Dk, cn) from by rw [HSV.out, HCB.out]; rfl)
            go_wp2_with fail
            go_roundw
            case rel => exact ⟨k + 1, by omega, by go_num, Dk, cn, A1, c1, rfl, HE.out, HP3.out, HF3.out, HLI.out⟩
            case measure => simp [intOf]; omega
          · have e2 : (t2 == 0) = false := by simpa using h2
            have HCB := Lib.hid (show canB Dk i = true from can_iff.2 ⟨awake_of HTO.out (by rw [HTT.out]; dsimp only; decide), Or.inr (by rw [HTT.out]; show 0 < t2; omega)⟩)
            go_wp2_with fail
            refine (take_any HP3.out HIN.out 1).mono ?_
            rintro e w4 ⟨A2, c2, rfl, hp, hf, ha⟩
            have HE := Lib.hid (show runTo D L (k + 1) = (stepD Dk i, cn + 1) from by rw [HSV.out, HCB.out]; rfl)
            have HPN := Lib.hid (show PL w4 (stepD Dk i) K g0 c0 A2 c2 base from by rw [stepD_take0 (by rw [HTT.out])]; exact hp)
            have HFN := Lib.hid (HLI.out.foot HF3.out hf)
            have HLN := Lib.hid (HLI.out.next ha HS3.out)
            clear hp hf ha
            go_wp2_with fail
            go_roundw
            case rel => exact ⟨k + 1, by omega, by go_num, stepD Dk i, cn + 1, A2, c2, rfl, HE.out, HPN.out, HFN.out, HLN.out⟩
            case measure => simp [intOf]; omega
        · have HCB := Lib.hid (show canB Dk i = true from canB_of HTO.out (by rw [HTT.out]; dsimp only; decide) (awake_of HTO.out (by rw [HTT.out]; dsimp only; decide)))
          go_wp2_with fail
          refine (mark_any HP3.out HIN.out).mono ?_
          rintro e w4 ⟨A2, c2, rfl, hp, hf, ha⟩
          have HE := Lib.hid (show runTo D L (k + 1) = (stepD Dk i, cn + 1) from by rw [HSV.out, HCB.out]; rfl)
          have HPN := Lib.hid (show PL w4 (stepD Dk i) K g0 c0 A2 c2 base from by rw [stepD_mark (by rw [HTT.out])]; exact hp)
          have HFN := Lib.hid (HLI.out.foot HF3.out hf)
          have HLN := Lib.hid (HLI.out.next ha HS3.out)
          clear hp hf ha
          go_wp2_with fail
          go_roundw
          case rel => exact ⟨k + 1, by omega, by go_num, stepD Dk i, cn + 1, A2, c2, rfl, HE.out, HPN.out, HFN.out, HLN.out⟩
          case measure => simp [intOf]; omega
        · have HCB := Lib.hid (show canB Dk i = true from canB_of HTO.out (by rw [HTT.out]; dsimp only; decide) (awake_of HTO.out (by rw [HTT.out]; dsimp only; decide)))
          go_wp2_with fail
          refine (doze_any HP3.out HIN.out HSO.out.2.1 HSO.out.2.2.1 (Nat.le_trans HBS.out HS3.out)).mono ?_
          rintro e w4 ⟨A2, c2, rfl, hp, hf, ha⟩
          have HE := Lib.hid (show runTo D L (k + 1) = (stepD Dk i, cn + 1) from by rw [HSV.out, HCB.out]; rfl)
          have HPN := Lib.hid (show PL w4 (stepD Dk i) K g0 c0 A2 c2 base from by rw [stepD_doze (by rw [HTT.out])]; exact hp)
          have HFN := Lib.hid (HLI.out.foot HF3.out hf)
          have HLN := Lib.hid (HLI.out.next ha HS3.out)
          clear hp hf ha
          go_wp2_with fail
          go_roundw
          case rel => exact ⟨k + 1, by omega, by go_num, stepD Dk i, cn + 1, A2, c2, rfl, HE.out, HPN.out, HFN.out, HLN.out⟩
          case measure => simp [intOf]; omega
        · cases t3
          · have HCB := Lib.hid (show canB Dk i = true from canB_of HTO.out (by rw [HTT.out]; dsimp only; decide) (by rw [HTT.out]))
            go_wp2_with fail
            refine (take_any HP3.out HIN.out 2).mono ?_
            rintro e w4 ⟨A2, c2, rfl, hp, hf, ha⟩
            have HE := Lib.hid (show runTo D L (k + 1) = (stepD Dk i, cn + 1) from by rw [HSV.out, HCB.out]; rfl)
            have HPN := Lib.hid (show PL w4 (stepD Dk i) K g0 c0 A2 c2 base from by rw [stepD_take3 (by rw [HTT.out])]; exact hp)
            have HFN := Lib.hid (HLI.out.foot HF3.out hf)
            have HLN := Lib.hid (HLI.out.next ha HS3.out)
            clear hp hf ha
            go_wp2_with fail
            go_roundw
            case rel => exact ⟨k + 1, by omega, by go_num, stepD Dk i, cn + 1, A2, c2, rfl, HE.out, HPN.out, HFN.out, HLN.out⟩
            case measure => simp [intOf]; omega
          · have HCB := Lib.hid (show canB Dk i = false from by
              cases e : canB Dk i
              · rfl
              · have h := can_iff.1 e
                rw [HTT.out] at h
                dsimp only at h
                exact absurd h.1 (by decide))
            have HE := Lib.hid (show runTo D L (k + 1) = (Dk, cn) from by rw [HSV.out, HCB.out]; rfl)
            go_wp2_with fail
            go_roundw
            case rel => exact ⟨k + 1, by omega, by go_num, Dk, cn, A1, c1, rfl, HE.out, HP3.out, HF3.out, HLI.out⟩
            case measure => simp [intOf]; omega
        · have HCB := Lib.hid (show canB Dk i = true from canB_of HTO.out (by rw [HTT.out]; dsimp only; decide) (awake_of HTO.out (by rw [HTT.out]; dsimp only; decide)))
          go_wp2_with fail
          refine (leave_any HP3.out HIN.out HTO.out.u).mono ?_
          rintro e w4 ⟨A2, c2, rfl, hp, hf, ha⟩
          have HE := Lib.hid (show runTo D L (k + 1) = (stepD Dk i, cn + 1) from by rw [HSV.out, HCB.out]; rfl)
          have HPN := Lib.hid (show PL w4 (stepD Dk i) K g0 c0 A2 c2 base from by rw [stepD_leave (by rw [HTT.out]) HOKk.out.1.w]; exact hp)
          have HFN := Lib.hid (HLI.out.foot HF3.out hf)
          have HLN := Lib.hid (HLI.out.next ha HS3.out)
          clear hp hf ha
          go_wp2_with fail
          go_roundw
          case rel => exact ⟨k + 1, by omega, by go_num, stepD Dk i, cn + 1, A2, c2, rfl, HE.out, HPN.out, HFN.out, HLN.out⟩
          case measure => simp [intOf]; omega
        · have HCB := Lib.hid (show canB Dk i = true from canB_of HTO.out (by rw [HTT.out]; dsimp only; decide) (awake_of HTO.out (by rw [HTT.out]; dsimp only; decide)))
          have HE := Lib.hid (show runTo D L (k + 1) = (stepD Dk i, cn + 1) from by rw [HSV.out, HCB.out]; rfl)
          have HPN := Lib.hid (show PL ((w3.setCell ⟨K, 0, none⟩ (.int .i64 0)).setCell ⟨g0, i * 4, none⟩ (.int .i64 6)) (stepD Dk i) K g0 c0 A1 c1 base from by
            rw [stepD_free (by rw [HTT.out])]
            have h1 := (HP3.out.word 0).fld0 (i := i) HIN.out (t := ⟨5, t1, t2, t3⟩) HTT.out 6
            rw [HTT.out]
            exact h1)
          have HFN := Lib.hid ((HF3.out.set fpL_K 0 (.int .i64 0)).set fpL_g (i * 4) (.int .i64 6))
          go_wp2_with fail
          go_roundw
          case rel => exact ⟨k + 1, by omega, by go_num, stepD Dk i, cn + 1, A1, c1, rfl, HE.out, HPN.out, HFN.out, HLI.out⟩
          case measure => simp [intOf]; omega
        · have HCB := Lib.hid (show canB Dk i = true from canB_of HTO.out (by rw [HTT.out]; dsimp only; decide) (awake_of HTO.out (by rw [HTT.out]; dsimp only; decide)))
          have HST := Lib.hid (stepD_wake HOKk.out.1 (i := i) (by rw [HTT.out]))
          have HTW := Lib.hid (wkD_th HOKk.out.1 (i := i) (by rw [HTT.out]))
          go_wp2_with fail
          refine (wake_any HP3.out HSO.out.2.2.2 HSO.out.2.1 HSO.out.2.2.1 HOKk.out.1.rng).mono ?_
          rintro e w5 ⟨A5, c5, rfl, hp5, hf5, ha5⟩
          have HP5 := Lib.hid hp5
          have HF5 := Lib.hid (HLI.out.foot HF3.out hf5)
          have HL5 := Lib.hid (HLI.out.next ha5 HS3.out)
          have HS5 := Lib.hid (show w.heap.size ≤ w5.heap.size from Nat.le_trans HS3.out hf5.size)
          clear hp5 hf5 ha5
          go_wp2_with fail
          refine (endTurn_any HP5.out (by rw [wkD_len]; exact HIN.out) (by rw [HTW.out]; exact HTO.out.u)).mono ?_
          rintro e w4 ⟨A2, c2, rfl, hp, hf, ha⟩
          have HE := Lib.hid (show runTo D L (k + 1) = (stepD Dk i, cn + 1) from by rw [HSV.out, HCB.out]; rfl)
          have HPN := Lib.hid (show PL w4 (stepD Dk i) K g0 c0 A2 c2 base from by rw [HST.out]; exact hp)
          have HFN := Lib.hid (HL5.out.foot HF5.out hf)
          have HLN := Lib.hid (HL5.out.next ha HS5.out)
          clear hp hf ha
          go_wp2_with fail
          go_roundw
          case rel => exact ⟨k + 1, by omega, by go_num, stepD Dk i, cn + 1, A2, c2, rfl, HE.out, HPN.out, HFN.out, HLN.out⟩
          case measure => simp [intOf]; omega
    · obtain rfl : k = m := by omega
      go_wp2_with fail
      refine bodyPost_ret (v := .int .i64 cn) (by simp [results, Try.results60, go_sem]) rfl ⟨A1, c1, by rw [HRUN.out], by rw [HRUN.out]; exact HP.out, HF.out, HLI.out⟩
end
end Go.Proofs.Ytpmigekejipohaa

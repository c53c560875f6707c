/-
  The model's l10Fixed, SigsOk.
-/
import Derived.Test.YtncinocpdeokgaaGPure2
import Derived.Test.YtncinocpdeokgaaTCopy
import Derived.Deep.RegionHeld3
namespace Go.Proofs.Ytncinocpdeokgaa
open Go.RowKit

theorem l10Fixed_any {w : World} (n : Int) : Calls Try.prog 64 #[.int .i64 n] w fun e w' => e = .returned (.bool (fixB n)) ∧ w = w' := by
  unfold fixB
  by_cases h1 : n = 1
  · subst h1
    go_enter Try.func64, Try.ntmps64
    go_wp2
    go_ret
    exact ⟨rfl, rfl⟩
  · have e1 : (n == 1) = false := by simpa using h1
    go_enter Try.func64, Try.ntmps64
    go_wp2
    go_ret
    exact ⟨ret_bool (by rw [decide_eq_false h1]; rfl), rfl⟩
theorem fix_nat (k : Nat) (_h : k < 8) : fixB ((k : Int) + 1) = !decide (2 ≤ k) := by
  unfold fixB
  rw [Bool.eq_iff_iff]
  simp only [Bool.or_eq_true, decide_eq_true_eq, Bool.not_eq_true', decide_eq_false_iff_not]
  omega

/-- what came in, each list of eight -/
structure X8 (w : World) (hi : Nat) (b0 o0 b1 o1 b2 o2 : Nat) (D : Sg) : Prop where
  c0 : ∀ k, k < 8 → w.cell? ⟨b0, o0 + k, none⟩ = some (.bool (D.1.getD k false))
  c1 : ∀ k, k < 8 → w.cell? ⟨b1, o1 + k, none⟩ = some (.bool (D.2.1.getD k false))
  c2 : ∀ k, k < 8 → w.cell? ⟨b2, o2 + k, none⟩ = some (.int .i64 (D.2.2.getD k 0))
  h0 : b0 < w.heap.size
  h1 : b1 < w.heap.size
  h2 : b2 < w.heap.size
theorem row8B {w : World} {hi : Nat} {A : Option Addr} {l : List Bool} (h : RowF elB w hi A 8 l) : ∃ b o, A = some ⟨b, o, none⟩ ∧ b < w.heap.size ∧ ∀ k, k < 8 → w.cell? ⟨b, o + k, none⟩ = some (.bool (l.getD k false)) := by
  obtain ⟨b, o, e, _, hb, hc⟩ := h (by omega)
  refine ⟨b, o, e, hb, fun k hk => ?_⟩
  have h := hc k hk 0 (by decide)
  rw [show o + k * elB.K + 0 = o + k from by show o + k * 1 + 0 = o + k; omega] at h
  exact h
theorem row8I {w : World} {hi : Nat} {A : Option Addr} {l : List Int} (h : RowF elI w hi A 8 l) : ∃ b o, A = some ⟨b, o, none⟩ ∧ b < w.heap.size ∧ ∀ k, k < 8 → w.cell? ⟨b, o + k, none⟩ = some (.int .i64 (l.getD k 0)) := by
  obtain ⟨b, o, e, _, hb, hc⟩ := h (by omega)
  refine ⟨b, o, e, hb, fun k hk => ?_⟩
  have h := hc k hk 0 (by decide)
  rw [show o + k * elI.K + 0 = o + k from by show o + k * 1 + 0 = o + k; omega] at h
  exact h
theorem read8 {w : World} {hi : Nat} {x0 x1 x2 : Value} {D : Sg} (h : tySigs.R w hi [x0, x1, x2] D) (l0 : D.1.length = 8) (l1 : D.2.1.length = 8) (l2 : D.2.2.length = 8) :
    ∃ b0 o0 c0 b1 o1 c1 b2 o2 c2, x0 = .slice (some ⟨b0, o0, none⟩) 8 c0 ∧ x1 = .slice (some ⟨b1, o1, none⟩) 8 c1 ∧ x2 = .slice (some ⟨b2, o2, none⟩) 8 c2 ∧ X8 w hi b0 o0 b1 o1 b2 o2 D := by
  obtain ⟨A0, n0, c0, A1, n1, c1, A2, n2, c2, hcs, ⟨e0, _, r0⟩, ⟨e1, _, r1⟩, ⟨e2, _, r2⟩⟩ := tySigs_R h
  simp only [List.cons.injEq, and_true] at hcs
  obtain ⟨rfl, rfl, rfl⟩ := hcs
  obtain rfl := e0.symm.trans l0
  obtain rfl := e1.symm.trans l1
  obtain rfl := e2.symm.trans l2
  obtain ⟨b0, o0, rfl, h0, f0⟩ := row8B r0
  obtain ⟨b1, o1, rfl, h1, f1⟩ := row8B r1
  obtain ⟨b2, o2, rfl, h2, f2⟩ := row8I r2
  exact ⟨b0, o0, c0, b1, o1, c1, b2, o2, c2, rfl, rfl, rfl, f0, f1, f2, h0, h1, h2⟩
theorem X8.below {w w' : World} {hi b0 o0 b1 o1 b2 o2 : Nat} {D : Sg} (h : X8 w hi b0 o0 b1 o1 b2 o2 D) (hb : Below w.heap.size w w') : X8 w' hi b0 o0 b1 o1 b2 o2 D :=
  ⟨fun k hk => (kc hb _ _ h.h0).trans (h.c0 k hk), fun k hk => (kc hb _ _ h.h1).trans (h.c1 k hk), fun k hk => (kc hb _ _ h.h2).trans (h.c2 k hk), Nat.lt_of_lt_of_le h.h0 hb.size, Nat.lt_of_lt_of_le h.h1 hb.size, Nat.lt_of_lt_of_le h.h2 hb.size⟩
theorem dOk_not {d : Int} (h : dOk d = false) : ¬ d = 0 ∧ ¬ d = 1 ∧ ¬ d = 4 := by
  unfold dOk at h
  simpa using h
theorem dOk_yes {d : Int} (h : dOk d = true) : d = 0 ∨ d = 1 ∨ d = 4 := by
  unfold dOk at h
  simpa using h

set_option maxHeartbeats 2000000 in
theorem sigsOk_any : GOk 28 := by
  intro w hi x0 x1 x2 D h
  have HA := Lib.hid h
  obtain ⟨A0, n0, c0, A1, n1, c1, A2, n2, c2, hcs, ⟨e0, m0, _⟩, ⟨e1, m1, _⟩, ⟨e2, m2, _⟩⟩ := tySigs_R h
  simp only [List.cons.injEq, and_true] at hcs
  obtain ⟨rfl, rfl, rfl⟩ := hcs
  unfold maxLen at m0 m1 m2
  clear h
  have hS : sigB D = (decide (n0 = 8) && (decide (n1 = 8) && (decide (n2 = 8) && sgTo D.2.1 D.2.2 8))) := by unfold sigB; rw [e0, e1, e2]
  have HS := Lib.hid hS
  have HE0 := Lib.hid e0
  have HE1 := Lib.hid e1
  have HE2 := Lib.hid e2
  have HW := Lib.hid (show Below w.heap.size w (w.alloc (.cells #[.slice A0 n0 c0, .slice A1 n1 c1, .slice A2 n2 c2] 26)) from (Below.refl _ _).alloc (Nat.le_refl _) _)
  clear hS e0 e1 e2
  by_cases h0 : n0 = 8
  case neg =>
    have q0 : ¬ ((n0 : Int) = 8) := by omega
    have b0 : ((n0 : Int) != 8) = true := by simpa using q0
    have HR := Lib.hid (show sigB D = false by rw [HS.out, decide_eq_false h0]; rfl)
    clear h0
    go_enter Try.func28, Try.ntmps28
    go_wp2_with fail
    go_ret
    exact ⟨ret_bool HR.out.symm, HW.out⟩
  subst h0
  by_cases h1 : n1 = 8
  case neg =>
    have q0 : ¬ ((n1 : Int) = 8) := by omega
    have b0 : ((n1 : Int) != 8) = true := by simpa using q0
    have HR := Lib.hid (show sigB D = false by rw [HS.out, decide_eq_false h1]; rfl)
    clear h1
    go_enter Try.func28, Try.ntmps28
    go_wp2_with fail
    go_ret
    exact ⟨ret_bool HR.out.symm, HW.out⟩
  subst h1
  by_cases h2 : n2 = 8
  case neg =>
    have q0 : ¬ ((n2 : Int) = 8) := by omega
    have b0 : ((n2 : Int) != 8) = true := by simpa using q0
    have HR := Lib.hid (show sigB D = false by rw [HS.out, decide_eq_false h2]; rfl)
    clear h2
    go_enter Try.func28, Try.ntmps28
    go_wp2_with fail
    go_ret
    exact ⟨ret_bool HR.out.symm, HW.out⟩
  subst h2
  obtain ⟨b0, o0, _, b1, o1, _, b2, o2, _, hx0, hx1, hx2, hx⟩ := read8 HA.out HE0.out HE1.out HE2.out
  simp only [Value.slice.injEq, true_and] at hx0 hx1 hx2
  obtain ⟨rfl, rfl⟩ := hx0
  obtain ⟨rfl, rfl⟩ := hx1
  obtain ⟨rfl, rfl⟩ := hx2
  have HXX := Lib.hid hx
  have HS2 := Lib.hid (show sigB D = sgTo D.2.1 D.2.2 8 by rw [HS.out]; rfl)
  clear hx
  have X0 := Lib.hid (Box.new w #[.slice (some ⟨b0, o0, none⟩) 8 c0, .slice (some ⟨b1, o1, none⟩) 8 c1, .slice (some ⟨b2, o2, none⟩) 8 c2] 26)
  go_enter Try.func28, Try.ntmps28
  go_wp2_with fail
  go_loopw [3] (fun i wr => ∃ k : Nat, k ≤ 8 ∧ i = .int .i64 k ∧ sgTo D.2.1 D.2.2 k = true ∧ Box wr w.heap.size #[.slice (some ⟨b0, o0, none⟩) 8 c0, .slice (some ⟨b1, o1, none⟩) 8 c1, .slice (some ⟨b2, o2, none⟩) 8 c2] 26 ∧ Below w.heap.size w wr) (fun i _ => 8 - (intOf i).toNat)
  case atStart => exact ⟨0, Nat.zero_le _, rfl, rfl, X0.out, HW.out⟩
  case round =>
    obtain ⟨k, hk, rfl, hok, hx, hb⟩ := hrel
    have HB := Lib.hid hb
    have HX := Lib.hid hx
    have HOK := Lib.hid hok
    clear hb hok hx
    have p0 := HX.out.cell 0
    have p1 := HX.out.cell 1
    have p2 := HX.out.cell 2
    have pl := HX.out.lt
    simp at p0 p1 p2
    by_cases hlt : k < 8
    · have hk1 : (k : Int) < 8 := by omega
      have hk2 : (0 : Int) ≤ k := by omega
      have HX8 := Lib.hid (HXX.out.below HB.out)
      have q1 := HX8.out.c1 k hlt
      have q2 := HX8.out.c2 k hlt
      have HN := Lib.hid (show sgTo D.2.1 D.2.2 (k + 1) = (dOk (D.2.2.getD k 0) && (decide (2 ≤ k) || (!(D.2.1.getD k false) && decide (D.2.2.getD k 0 = 0)))) by
        show (sgTo D.2.1 D.2.2 k && _) = _
        rw [HOK.out]; rfl)
      have HFX := Lib.hid (fix_nat k hlt)
      generalize D.2.2.getD k 0 = d at q2 HN
      generalize D.2.1.getD k false = bb at q1 HN
      by_cases hd : dOk d = true
      case neg =>
        have hd' : dOk d = false := by simpa using hd
        obtain ⟨d0, d1, d4⟩ := dOk_not hd'
        have e0 : (d == 0) = false := by simpa using d0
        have e1 : (d == 1) = false := by simpa using d1
        have e4 : (d == 4) = false := by simpa using d4
        have f0 : (d != 0) = true := by simpa using d0
        have f1 : (d != 1) = true := by simpa using d1
        have f4 : (d != 4) = true := by simpa using d4
        have HR := Lib.hid (show sigB D = false by rw [HS2.out]; exact sgTo_no hlt (by rw [HN.out, hd']; rfl))
        clear hd hd' d0 d1 d4
        go_wp2_with fail
        go_ret
        exact ⟨ret_bool HR.out.symm, HB.out⟩
      have hdn : (d != 0 && d != 1 && d != 4) = false := by rcases dOk_yes hd with h | h | h <;> subst h <;> rfl
      rw [hd] at HN
      by_cases hf : 2 ≤ k
      · have hfx : fixB ((k : Int) + 1) = false := by rw [HFX.out, decide_eq_true hf]; rfl
        have HR := Lib.hid (show sgTo D.2.1 D.2.2 (k + 1) = true by rw [HN.out, decide_eq_true hf]; rfl)
        rcases dOk_yes hd with h | h | h
        all_goals
          subst h
          clear hdn hd hf
          go_wp2_with fail
          refine (l10Fixed_any _).mono ?_
          rw [hfx]
          rintro e w1 ⟨rfl, rfl⟩
          go_wp2_with fail
          go_roundw
          case rel => exact ⟨k + 1, by omega, by go_num, HR.out, HX.out, HB.out⟩
          case measure => simp [intOf]; omega
      · have hfx : fixB ((k : Int) + 1) = true := by rw [HFX.out, decide_eq_false hf]; rfl
        have HN2 := Lib.hid (show sgTo D.2.1 D.2.2 (k + 1) = (!bb && decide (d = 0)) by rw [HN.out, decide_eq_false hf]; rfl)
        cases bb
        · by_cases h0 : d = 0
          · subst h0
            have HR := Lib.hid (show sgTo D.2.1 D.2.2 (k + 1) = true by rw [HN2.out]; rfl)
            clear hdn hd hf
            go_wp2_with fail
            refine (l10Fixed_any _).mono ?_
            rw [hfx]
            rintro e w1 ⟨rfl, rfl⟩
            go_wp2_with fail
            go_roundw
            case rel => exact ⟨k + 1, by omega, by go_num, HR.out, HX.out, HB.out⟩
            case measure => simp [intOf]; omega
          · have HR := Lib.hid (show sigB D = false by rw [HS2.out]; exact sgTo_no hlt (by rw [HN2.out, decide_eq_false h0]; rfl))
            rcases (dOk_yes hd).resolve_left h0 with h | h
            all_goals
              subst h
              clear hdn hd hf h0
              go_wp2_with fail
              refine (l10Fixed_any _).mono ?_
              rw [hfx]
              rintro e w1 ⟨rfl, rfl⟩
              go_wp2_with fail
              go_ret
              exact ⟨ret_bool HR.out.symm, HB.out⟩
        · have HR := Lib.hid (show sigB D = false by rw [HS2.out]; exact sgTo_no hlt (by rw [HN2.out]; rfl))
          rcases dOk_yes hd with h | h | h
          all_goals
            subst h
            clear hdn hd hf
            go_wp2_with fail
            refine (l10Fixed_any _).mono ?_
            rw [hfx]
            rintro e w1 ⟨rfl, rfl⟩
            go_wp2_with fail
            go_ret
            exact ⟨ret_bool HR.out.symm, HB.out⟩
    · obtain rfl : k = 8 := by omega
      go_wp2_with fail
      go_ret
      exact ⟨ret_bool (by rw [HS2.out, HOK.out]), HB.out⟩
end Go.Proofs.Ytncinocpdeokgaa

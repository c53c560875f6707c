/-
  The model's PagesOk: for whatever pages it answers as the program's does (okPg), and leaves all that was there as it was.
-/
import Derived.Test.YtemmcjjfjcjbeaaOk
namespace Go.Proofs.Ytemmcjjfjcjbeaa
open Go.RowKit

theorem okP_zero {s : ByteArray} {r : Int} (h : r = 0) : okP s r = decide ((s.size : Int) = 0) := by
  subst h
  have e : (s.toList = []) ↔ (s.size : Int) = 0 := by rw [ByteArray.toList_eq, Array.toList_eq_nil_iff, ← Array.size_eq_zero_iff]; show s.size = 0 ↔ _; omega
  unfold okP freeB
  rw [Bool.eq_iff_iff]; simp [e]
theorem okP_some {s : ByteArray} {r : Int} (h : ¬ r = 0) : okP s r = decide ((0 ≤ r ∧ r ≤ 99) ∧ (s.size : Int) = 4) := by
  unfold okP freeB
  rw [Bool.eq_iff_iff]; simp [h]; omega

section
variable {A : Option Addr} {n c : Nat} {B : Option Addr} {m d : Nat} {ts : List ByteArray} {rs : List Int} {w : World}

theorem oks_len (hne : n ≠ m) :
    Calls Try.prog 28 #[.agg #[.slice A n c, .slice B m d]] w fun e w' => e = .returned (.bool false) ∧ Below w.heap.size w w' := by
  have hnm : ((n : Int) != m) = true := by rw [bne_iff_ne]; omega
  clear hne
  go_enter Try.func28, Try.ntmps28
  go_wp2_with fail
  go_ret
  exact ⟨rfl, (Below.refl _ _).alloc (Nat.le_refl _) _⟩

theorem oks_fit (hf : inB n 1 12 = false) :
    Calls Try.prog 28 #[.agg #[.slice A n c, .slice B n d]] w fun e w' => e = .returned (.bool false) ∧ Below w.heap.size w w' := by
  go_enter Try.func28, Try.ntmps28
  go_wp2_with (go_at_call 64; refine (l6In_any _ _ _ _).mono ?_; rintro e w1 ⟨rfl, rfl⟩)
  go_ret
  exact ⟨rfl, (Below.refl _ _).alloc (Nat.le_refl _) _⟩

theorem oks_main (b o b2 o2 : Nat) (hf : inB n 1 12 = true) (hsm : ∀ k, (ts.getD k .empty).size ≤ maxLen) (hb : b < w.heap.size) (hb2 : b2 < w.heap.size)
    (hn : ts.length = n) (hm : rs.length = n)
    (hc : ∀ k, k < n → w.cell? ⟨b, o + k, none⟩ = some (.string (ts.getD k .empty))) (hc2 : ∀ k, k < n → w.cell? ⟨b2, o2 + k, none⟩ = some (.int .i64 (rs.getD k 0))) :
    Calls Try.prog 28 #[.agg #[.slice (some ⟨b, o, none⟩) n c, .slice (some ⟨b2, o2, none⟩) n d]] w fun e w' => e = .returned (.bool (okPg ts rs)) ∧ Below w.heap.size w w' := by
  have HN := Lib.hid hn
  have HM := Lib.hid hm
  have HC := Lib.hid hc
  have HC2 := Lib.hid hc2
  clear hn hm hc hc2
  obtain ⟨h1, h12⟩ := of_inB hf
  go_enter Try.func28, Try.ntmps28
  go_wp2_with (go_at_call 64; refine (l6In_any _ _ _ _).mono ?_; rintro e w1 ⟨rfl, rfl⟩)
  go_loop [3] (fun i => ∃ k : Nat, k ≤ n ∧ i = .int .i64 k ∧ Hid (∀ j, j < k → okP (ts.getD j .empty) (rs.getD j 0) = true))
    (fun i => n - (intOf i).toNat)
  case atStart => exact ⟨0, Nat.zero_le _, rfl, Lib.hid (fun j hj => absurd hj (Nat.not_lt_zero j))⟩
  case round =>
    obtain ⟨k, hk, rfl, HR⟩ := hrel
    by_cases hlt : k < n
    · have c1 : w.cell? ⟨b, o + k, none⟩ = some (.string (ts.getD k .empty)) := HC.out k hlt
      have c2 : w.cell? ⟨b2, o2 + k, none⟩ = some (.int .i64 (rs.getD k 0)) := HC2.out k hlt
      have hs := hsm k
      unfold maxLen at hs
      clear hsm
      generalize hse : ts.getD k .empty = s at c1 hs
      generalize hre : rs.getD k 0 = r at c2
      have HS := Lib.hid hse
      have HR2 := Lib.hid hre
      clear hse hre
      by_cases hr0 : r = 0
      · have hx := okP_zero (s := s) hr0
        have hin : inB r 0 99 = true := inB_of (by omega)
        have hrb : (r == 0) = true := by rw [beq_iff_eq]; exact hr0
        have HX := Lib.hid hx
        clear hx hr0
        go_wp2_with (go_at_call 64; refine (l6In_any _ _ _ _).mono ?_; rintro e w1 ⟨rfl, rfl⟩)
        · have hok : okP s r = false := by rw [HX.out]; have hq : (((s.size : Int)) != 0) = true := ‹_›; simp at hq ⊢; omega
          go_ret
          exact ⟨ret_bool (okPg_at (k := k) (by rw [HM.out]; exact hlt) (by rw [HS.out, HR2.out]; exact hok)).symm, (Below.refl _ _).alloc (Nat.le_refl _) _⟩
        · have hok : okP s r = true := by rw [HX.out]; have hq : (((s.size : Int)) != 0) = false := ‹_›; simp at hq ⊢; omega
          go_round
          case rel =>
            refine ⟨k + 1, by omega, by go_num, Lib.hid (fun j hj => ?_)⟩
            by_cases hjk : j = k
            · rw [hjk, HS.out, HR2.out]; exact hok
            · exact HR.out j (by omega)
          case measure => simp [intOf]; omega
      · have hx := okP_some (s := s) hr0
        have hrb : (r == 0) = false := by rw [beq_eq_false_iff_ne]; exact hr0
        have HX := Lib.hid hx
        clear hx hr0
        by_cases hin : inB r 0 99 = true
        · have hin2 := of_inB hin
          have HI := Lib.hid hin2
          clear hin2
          go_wp2_with (go_at_call 64; refine (l6In_any _ _ _ _).mono ?_; rintro e w1 ⟨rfl, rfl⟩)
          · have hok : okP s r = false := by rw [HX.out]; have hq : (((s.size : Int)) != 4) = true := ‹_›; have hi := HI.out; simp at hq ⊢; omega
            go_ret
            exact ⟨ret_bool (okPg_at (k := k) (by rw [HM.out]; exact hlt) (by rw [HS.out, HR2.out]; exact hok)).symm, (Below.refl _ _).alloc (Nat.le_refl _) _⟩
          · have hok : okP s r = true := by rw [HX.out]; have hq : (((s.size : Int)) != 4) = false := ‹_›; have hi := HI.out; simp at hq ⊢; omega
            go_round
            case rel =>
              refine ⟨k + 1, by omega, by go_num, Lib.hid (fun j hj => ?_)⟩
              by_cases hjk : j = k
              · rw [hjk, HS.out, HR2.out]; exact hok
              · exact HR.out j (by omega)
            case measure => simp [intOf]; omega
        · have hin' : inB r 0 99 = false := by simpa using hin
          have hok : okP s r = false := by rw [HX.out]; have := of_inB_not hin'; simp; omega
          have HOK := Lib.hid hok
          clear hin hok
          go_wp2_with (go_at_call 64; refine (l6In_any _ _ _ _).mono ?_; rintro e w1 ⟨rfl, rfl⟩)
          go_ret
          exact ⟨ret_bool (okPg_at (k := k) (by rw [HM.out]; exact hlt) (by rw [HS.out, HR2.out]; exact HOK.out)).symm, (Below.refl _ _).alloc (Nat.le_refl _) _⟩
    · obtain rfl : k = n := by omega
      clear HC HC2
      go_wp2
      go_ret
      exact ⟨ret_bool (okPg_all (HN.out.trans HM.out.symm) (by rw [HM.out]; omega) (by rw [HM.out]; exact HR.out)).symm, (Below.refl _ _).alloc (Nat.le_refl _) _⟩

theorem oks_any (hp : Pg w A n B m ts rs) :
    Calls Try.prog 28 #[.agg #[.slice A n c, .slice B m d]] w fun e w' => e = .returned (.bool (okPg ts rs)) ∧ Below w.heap.size w w' := by
  by_cases hne : n = m
  · subst hne
    by_cases hf : inB n 1 12 = true
    · have hf' := of_inB hf
      obtain ⟨b, o, rfl, hb, hc⟩ := hp.tc (by omega)
      obtain ⟨b2, o2, rfl, hb2, hc2⟩ := hp.rc (by omega)
      exact oks_main b o b2 o2 hf hp.small hb hb2 hp.tl hp.rl hc hc2
    · have hf' : inB n 1 12 = false := by simpa using hf
      have : okPg ts rs = false := okPg_fit (by have := of_inB_not hf'; rw [hp.rl]; omega)
      rw [this]
      exact oks_fit hf'
  · have : okPg ts rs = false := okPg_len (by rw [hp.tl, hp.rl]; exact hne)
    rw [this]
    exact oks_len hne
end
end Go.Proofs.Ytemmcjjfjcjbeaa

/-
  PagesOk of the program and of the model: each answers, for whatever pages, whether they are valid (okPg), and leaves all that was there as it was.
-/
import Derived.Test.YtemmcjjfjcjbeaaBase
namespace Go.Proofs.Ytemmcjjfjcjbeaa
open Go.RowKit

/-- pages are valid -/
def okPg (ts : List ByteArray) (rs : List Int) : Bool :=
  decide (ts.length = rs.length ∧ (1 ≤ rs.length ∧ rs.length ≤ 12) ∧ ∀ k, k < rs.length → okP (ts.getD k .empty) (rs.getD k 0) = true)
theorem okPg_len {ts : List ByteArray} {rs : List Int} (h : ts.length ≠ rs.length) : okPg ts rs = false := decide_eq_false fun g => h g.1
theorem okPg_fit {ts : List ByteArray} {rs : List Int} (h : ¬ (1 ≤ rs.length ∧ rs.length ≤ 12)) : okPg ts rs = false := decide_eq_false fun g => h g.2.1
theorem okPg_at {ts : List ByteArray} {rs : List Int} {k : Nat} (hk : k < rs.length) (h : okP (ts.getD k .empty) (rs.getD k 0) = false) : okPg ts rs = false :=
  decide_eq_false fun g => by have := g.2.2 k hk; rw [h] at this; cases this
theorem okPg_all {ts : List ByteArray} {rs : List Int} (h0 : ts.length = rs.length) (h1 : 1 ≤ rs.length ∧ rs.length ≤ 12)
    (h : ∀ k, k < rs.length → okP (ts.getD k .empty) (rs.getD k 0) = true) : okPg ts rs = true := decide_eq_true ⟨h0, h1, h⟩

/-- a slice's value, at an address with n elements, reads as the cells f 0, f 1, .. -/
def Row (w : World) (A : Option Addr) (n : Nat) (f : Nat → Value) : Prop :=
  0 < n → ∃ b o, A = some ⟨b, o, none⟩ ∧ b < w.heap.size ∧ ∀ k, k < n → w.cell? ⟨b, o + k, none⟩ = some (f k)
theorem Row.below {w w' : World} {A : Option Addr} {n : Nat} {f : Nat → Value} (h : Row w A n f) (hb : Below w.heap.size w w') : Row w' A n f := fun hn => by
  obtain ⟨b, o, e, hlt, hc⟩ := h hn
  exact ⟨b, o, e, Nat.lt_of_lt_of_le hlt hb.size, fun k hk => by rw [kc hb _ _ hlt]; exact hc k hk⟩

/-- a value of type Pages, its texts and its numbers -/
structure Pg (w : World) (A : Option Addr) (n : Nat) (B : Option Addr) (m : Nat) (ts : List ByteArray) (rs : List Int) : Prop where
  tl : ts.length = n
  rl : rs.length = m
  nb : n ≤ maxLen
  mb : m ≤ maxLen
  small : ∀ k, (ts.getD k .empty).size ≤ maxLen
  tc : Row w A n fun k => .string (ts.getD k .empty)
  rc : Row w B m fun k => .int .i64 (rs.getD k 0)
theorem Pg.below {w w' : World} {A : Option Addr} {n : Nat} {B : Option Addr} {m : Nat} {ts : List ByteArray} {rs : List Int} (h : Pg w A n B m ts rs) (hb : Below w.heap.size w w') : Pg w' A n B m ts rs :=
  ⟨h.tl, h.rl, h.nb, h.mb, h.small, h.tc.below hb, h.rc.below hb⟩

section
variable {A : Option Addr} {n c : Nat} {B : Option Addr} {m d : Nat} {ts : List ByteArray} {rs : List Int} {w : World}

theorem ok_len (hne : n ≠ m) :
    Calls Try.prog 25 #[.agg #[.slice A n c, .slice B m d]] w fun e w' => e = .returned (.bool false) ∧ Below w.heap.size w w' := by
  have hnm : ((n : Int) != m) = true := by rw [bne_iff_ne]; omega
  clear hne
  go_enter Try.func25, Try.ntmps25
  go_wp2_with fail
  go_ret
  exact ⟨rfl, (Below.refl _ _).alloc (Nat.le_refl _) _⟩

theorem ok_fit (hf : inB n 1 12 = false) :
    Calls Try.prog 25 #[.agg #[.slice A n c, .slice B n d]] w fun e w' => e = .returned (.bool false) ∧ Below w.heap.size w w' := by
  go_enter Try.func25, Try.ntmps25
  go_wp2_with (go_at_call 63; refine (placesFit_any _ _).mono ?_; rintro e w1 ⟨rfl, rfl⟩)
  go_ret
  exact ⟨rfl, (Below.refl _ _).alloc (Nat.le_refl _) _⟩

theorem ok_main (b o b2 o2 : Nat) (hf : inB n 1 12 = true) (hsm : ∀ k, (ts.getD k .empty).size ≤ maxLen) (hb : b < w.heap.size) (hb2 : b2 < w.heap.size)
    (hn : ts.length = n) (hm : rs.length = n)
    (hc : ∀ k, k < n → w.cell? ⟨b, o + k, none⟩ = some (.string (ts.getD k .empty))) (hc2 : ∀ k, k < n → w.cell? ⟨b2, o2 + k, none⟩ = some (.int .i64 (rs.getD k 0))) :
    Calls Try.prog 25 #[.agg #[.slice (some ⟨b, o, none⟩) n c, .slice (some ⟨b2, o2, none⟩) n d]] w fun e w' => e = .returned (.bool (okPg ts rs)) ∧ Below w.heap.size w w' := by
  have HN := Lib.hid hn
  have HM := Lib.hid hm
  have HC := Lib.hid hc
  have HC2 := Lib.hid hc2
  clear hn hm hc hc2
  obtain ⟨h1, h12⟩ := of_inB hf
  go_enter Try.func25, Try.ntmps25
  go_wp2_with (go_at_call 63; refine (placesFit_any _ _).mono ?_; rintro e w1 ⟨rfl, rfl⟩)
  go_loopw [21] (fun i wr => ∃ k : Nat, k ≤ n ∧ i = .int .i64 k ∧ Hid (∀ j, j < k → okP (ts.getD j .empty) (rs.getD j 0) = true) ∧
      Below (w.alloc (.cells #[.slice (some ⟨b, o, none⟩) n c, .slice (some ⟨b2, o2, none⟩) n d] 27)).heap.size (w.alloc (.cells #[.slice (some ⟨b, o, none⟩) n c, .slice (some ⟨b2, o2, none⟩) n d] 27)) wr)
    (fun i _ => n - (intOf i).toNat)
  case atStart => exact ⟨0, Nat.zero_le _, rfl, Lib.hid (fun j hj => absurd hj (Nat.not_lt_zero j)), Below.refl _ _⟩
  case round =>
    obtain ⟨k, hk, rfl, HR, hbl⟩ := hrel
    have hcr := kc hbl
    have hsz := hbl.size
    simp only [World.size_alloc] at hcr hsz
    by_cases hlt : k < n
    · have c1 : wr.cell? ⟨b, o + k, none⟩ = some (.string (ts.getD k .empty)) := by rw [hcr _ _ (by omega), World.cell?_alloc_lt _ _ _ hb]; exact HC.out k hlt
      have c2 : wr.cell? ⟨b2, o2 + k, none⟩ = some (.int .i64 (rs.getD k 0)) := by rw [hcr _ _ (by omega), World.cell?_alloc_lt _ _ _ hb2]; exact HC2.out k hlt
      have hs := hsm k
      have hb' : b < wr.heap.size := by omega
      have hb2' : b2 < wr.heap.size := by omega
      have hz := hbl.size
      clear hsm
      generalize hse : ts.getD k .empty = s at c1 hs
      generalize hre : rs.getD k 0 = r at c2
      have HS := Lib.hid hse
      have HR2 := Lib.hid hre
      clear hse hre
      go_wp2_with (first
        | (go_at_call 66; refine (in_any s r k b b2 o o2 n c n d wr hlt hlt c1 c2 hb' hb2').mono ?_; rintro e w2 ⟨rfl, hb3⟩)
        | (go_at_call 67; refine (pageok_any s r _ hs).mono ?_; rintro e w3 ⟨rfl, hb4⟩))
      · have hok : okP s r = false := by simpa using ‹(!okP s r) = true›
        go_ret
        refine ⟨ret_bool (okPg_at (k := k) (by rw [HM.out]; exact hlt) (by rw [HS.out, HR2.out]; exact hok)).symm, ?_⟩
        exact ((Below.refl _ _).alloc (Nat.le_refl _) _).trans ((hbl.mono (by simp)).trans ((hb3.mono (by omega)).trans (hb4.mono (by have := hb3.size; omega))))
      · have hok : okP s r = true := by simpa using ‹(!okP s r) = false›
        go_roundw
        case rel =>
          refine ⟨k + 1, by omega, by go_num, Lib.hid (fun j hj => ?_), hbl.trans ((hb3.mono hz).trans (hb4.mono (by have := hb3.size; omega)))⟩
          by_cases hjk : j = k
          · rw [hjk, HS.out, HR2.out]; exact hok
          · exact HR.out j (by omega)
        case measure => simp [intOf]; omega
    · obtain rfl : k = n := by omega
      clear HC HC2 hcr
      go_wp2
      go_ret
      refine ⟨ret_bool (okPg_all (HN.out.trans HM.out.symm) (by rw [HM.out]; omega) (by rw [HM.out]; exact HR.out)).symm, ?_⟩
      exact ((Below.refl _ _).alloc (Nat.le_refl _) _).trans (hbl.mono (by simp))

theorem ok_any (hp : Pg w A n B m ts rs) :
    Calls Try.prog 25 #[.agg #[.slice A n c, .slice B m d]] w fun e w' => e = .returned (.bool (okPg ts rs)) ∧ Below w.heap.size w w' := by
  by_cases hne : n = m
  · subst hne
    by_cases hf : inB n 1 12 = true
    · have hf' := of_inB hf
      obtain ⟨b, o, rfl, hb, hc⟩ := hp.tc (by omega)
      obtain ⟨b2, o2, rfl, hb2, hc2⟩ := hp.rc (by omega)
      exact ok_main b o b2 o2 hf hp.small hb hb2 hp.tl hp.rl hc hc2
    · have hf' : inB n 1 12 = false := by simpa using hf
      have : okPg ts rs = false := okPg_fit (by have := of_inB_not hf'; rw [hp.rl]; omega)
      rw [this]
      exact ok_fit hf'
  · have : okPg ts rs = false := okPg_len (by rw [hp.tl, hp.rl]; exact hne)
    rw [this]
    exact ok_len hne
end
end Go.Proofs.Ytemmcjjfjcjbeaa

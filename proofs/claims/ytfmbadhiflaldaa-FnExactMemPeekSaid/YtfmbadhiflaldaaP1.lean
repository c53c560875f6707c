/-
  Pages: PagesOk of the program and of the model over the kit of the later chapters.
-/
import Derived.Test.YtfmbadhiflaldaaKit
import Derived.Test.YtfmbadhiflaldaaRPages
import Derived.Laws.CopyRow
namespace Go.Proofs.Ytfmbadhiflaldaa
open Go.RowKit

theorem placesFit_any (n : Int) (w : World) :
    Calls Try.prog 153 #[.int .i64 n] w fun e w' => e = .returned (.bool (inB n 1 12)) ∧ w = w' := by
  by_cases h1 : 1 ≤ n
  · by_cases h2 : n ≤ 12
    · rw [inB_of ⟨h1, h2⟩]
      go_enter Try.func153, Try.ntmps153
      go_wp2
      go_ret
      exact ⟨rfl, rfl⟩
    · rw [inB_not (by omega)]
      go_enter Try.func153, Try.ntmps153
      go_wp2
      go_ret
      exact ⟨rfl, rfl⟩
  · rw [inB_not (by omega)]
    go_enter Try.func153, Try.ntmps153
    go_wp2
    go_ret
    exact ⟨rfl, rfl⟩

/-- a page that nobody refers to, without a text -/
def freeB (s : ByteArray) (r : Int) : Bool := decide (s.toList = [] ∧ r = 0)
theorem freeB_of {s : ByteArray} {r : Int} (h : s.toList = [] ∧ r = 0) : freeB s r = true := decide_eq_true h
theorem freeB_not {s : ByteArray} {r : Int} (h : ¬ (s.toList = [] ∧ r = 0)) : freeB s r = false := decide_eq_false h

theorem free_any (s : ByteArray) (r : Int) (w : World) :
    Calls Try.prog 171 #[.agg #[.string s, .int .i64 r]] w fun e w' => e = .returned (.bool (freeB s r)) ∧ Below w.heap.size w w' := by
  go_enter Try.func171, Try.ntmps171
  go_wp2
  · go_ret
    exact ⟨ret_bool (freeB_of ⟨‹_›, ‹_›⟩).symm, (Below.refl _ _).alloc (Nat.le_refl _) _⟩
  · go_ret
    exact ⟨ret_bool (freeB_not fun h => ‹¬ r = 0› h.2).symm, (Below.refl _ _).alloc (Nat.le_refl _) _⟩
  · go_ret
    exact ⟨ret_bool (freeB_not fun h => ‹¬ s.toList = []› h.1).symm, (Below.refl _ _).alloc (Nat.le_refl _) _⟩

/-- a page that may be in a place -/
def okP (s : ByteArray) (r : Int) : Bool := freeB s r || decide (1 ≤ r ∧ r ≤ 99 ∧ (s.size : Int) = 4)
theorem okP_free {s : ByteArray} {r : Int} (h : freeB s r = true) : okP s r = true := by unfold okP; rw [h]; rfl
theorem okP_of {s : ByteArray} {r : Int} (h : 1 ≤ r ∧ r ≤ 99 ∧ (s.size : Int) = 4) : okP s r = true := by unfold okP; rw [decide_eq_true h, Bool.or_true]
theorem okP_not {s : ByteArray} {r : Int} (hf : freeB s r = false) (h : ¬ (1 ≤ r ∧ r ≤ 99 ∧ (s.size : Int) = 4)) : okP s r = false := by unfold okP; rw [hf, decide_eq_false h]; rfl

theorem pageok_any (s : ByteArray) (r : Int) (w : World) (_hs : s.size ≤ maxLen) :
    Calls Try.prog 155 #[.agg #[.string s, .int .i64 r]] w fun e w' => e = .returned (.bool (okP s r)) ∧ Below w.heap.size w w' := by
  unfold maxLen at _hs
  go_enter Try.func155, Try.ntmps155
  go_wp2_with (go_at_call 171; refine (free_any _ _ _).mono ?_; rintro e w1 ⟨rfl, hb1⟩; have hc1 := kc hb1)
  all_goals go_ret
  all_goals refine ⟨ret_bool ?_, ((Below.refl _ _).alloc (Nat.le_refl _) _).trans (hb1.mono (by simp))⟩
  · exact (okP_free ‹_›).symm
  · have hf : freeB s r = false := by simpa using ‹¬freeB s r = true›
    unfold okP; rw [hf, Bool.false_or, Bool.eq_iff_iff]; simp; omega
  · exact (okP_not (by simpa using ‹¬freeB s r = true›) (by omega)).symm
  · exact (okP_not (by simpa using ‹¬freeB s r = true›) (by omega)).symm

theorem in_any (s : ByteArray) (r : Int) (k : Nat) (A A2 : Nat) (o o2 : Nat) (n c m d : Nat) (w : World) (hk : k < n) (hk2 : k < m)
    (hs : w.cell? ⟨A, o + k, none⟩ = some (.string s)) (hr : w.cell? ⟨A2, o2 + k, none⟩ = some (.int .i64 r)) (hA : A < w.heap.size) (hA2 : A2 < w.heap.size) :
    Calls Try.prog 154 #[.agg #[.slice (some ⟨A, o, none⟩) n c, .slice (some ⟨A2, o2, none⟩) m d], .int .i64 k] w fun e w' =>
      e = .returned (.agg #[.string s, .int .i64 r]) ∧ Below w.heap.size w w' := by
  have hk' : (k : Int) < n := by omega
  have hk2' : (k : Int) < m := by omega
  have h0 : (0 : Int) ≤ k := by omega
  go_enter Try.func154, Try.ntmps154
  go_wp2
  go_region
  go_wp2
  refine bodyPost_ret (v := .agg #[.string s, .int .i64 r]) (by simp [results, Try.results154, go_sem]) rfl ⟨rfl, ?_⟩
  exact (((Below.refl _ _).alloc (Nat.le_refl _) _).alloc (by simp) _).drew
/-- pages are valid -/
def okPg (ts : List ByteArray) (rs : List Int) : Bool :=
  decide (ts.length = rs.length ∧ (1 ≤ rs.length ∧ rs.length ≤ 12) ∧ ∀ k, k < rs.length → okP (ts.getD k .empty) (rs.getD k 0) = true)
theorem okPg_len {ts : List ByteArray} {rs : List Int} (h : ts.length ≠ rs.length) : okPg ts rs = false := decide_eq_false fun g => h g.1
theorem okPg_fit {ts : List ByteArray} {rs : List Int} (h : ¬ (1 ≤ rs.length ∧ rs.length ≤ 12)) : okPg ts rs = false := decide_eq_false fun g => h g.2.1
theorem okPg_at {ts : List ByteArray} {rs : List Int} {k : Nat} (hk : k < rs.length) (h : okP (ts.getD k .empty) (rs.getD k 0) = false) : okPg ts rs = false :=
  decide_eq_false fun g => by have := g.2.2 k hk; rw [h] at this; cases this
theorem okPg_all {ts : List ByteArray} {rs : List Int} (h0 : ts.length = rs.length) (h1 : 1 ≤ rs.length ∧ rs.length ≤ 12)
    (h : ∀ k, k < rs.length → okP (ts.getD k .empty) (rs.getD k 0) = true) : okPg ts rs = true := decide_eq_true ⟨h0, h1, h⟩

/-- a value of type Pages, its texts and its numbers -/
structure Pg (w : World) (A : Option Addr) (n : Nat) (B : Option Addr) (m : Nat) (ts : List ByteArray) (rs : List Int) : Prop where
  tl : ts.length = n
  rl : rs.length = m
  nb : n ≤ maxLen
  mb : m ≤ maxLen
  small : ∀ k, (ts.getD k .empty).size ≤ maxLen
  tc : Row w A n fun k => .string (ts.getD k .empty)
  rc : Row w B m fun k => .int .i64 (rs.getD k 0)
theorem Pg.below {w w' : World} {A : Option Addr} {n : Nat} {B : Option Addr} {m : Nat} {ts : List ByteArray} {rs : List Int} (h : Pg w A n B m ts rs) (hb : Below w.heap.size w w') : Pg w' A n B m ts rs :=
  ⟨h.tl, h.rl, h.nb, h.mb, h.small, h.tc.below hb, h.rc.below hb⟩

section
variable {A : Option Addr} {n c : Nat} {B : Option Addr} {m d : Nat} {ts : List ByteArray} {rs : List Int} {w : World}

theorem ok_len (hne : n ≠ m) :
    Calls Try.prog 130 #[.agg #[.slice A n c, .slice B m d]] w fun e w' => e = .returned (.bool false) ∧ Below w.heap.size w w' := by
  have hnm : ((n : Int) != m) = true := by rw [bne_iff_ne]; omega
  clear hne
  go_enter Try.func130, Try.ntmps130
  go_wp2_with fail
  go_ret
  exact ⟨rfl, (Below.refl _ _).alloc (Nat.le_refl _) _⟩

theorem ok_fit (hf : inB n 1 12 = false) :
    Calls Try.prog 130 #[.agg #[.slice A n c, .slice B n d]] w fun e w' => e = .returned (.bool false) ∧ Below w.heap.size w w' := by
  go_enter Try.func130, Try.ntmps130
  go_wp2_with (go_at_call 153; refine (placesFit_any _ _).mono ?_; rintro e w1 ⟨rfl, rfl⟩)
  go_ret
  exact ⟨rfl, (Below.refl _ _).alloc (Nat.le_refl _) _⟩

theorem ok_main (b o b2 o2 : Nat) (hf : inB n 1 12 = true) (hsm : ∀ k, (ts.getD k .empty).size ≤ maxLen) (hb : b < w.heap.size) (hb2 : b2 < w.heap.size)
    (hn : ts.length = n) (hm : rs.length = n)
    (hc : ∀ k, k < n → w.cell? ⟨b, o + k, none⟩ = some (.string (ts.getD k .empty))) (hc2 : ∀ k, k < n → w.cell? ⟨b2, o2 + k, none⟩ = some (.int .i64 (rs.getD k 0))) :
    Calls Try.prog 130 #[.agg #[.slice (some ⟨b, o, none⟩) n c, .slice (some ⟨b2, o2, none⟩) n d]] w fun e w' => e = .returned (.bool (okPg ts rs)) ∧ Below w.heap.size w w' := by
  have HN := Lib.hid hn
  have HM := Lib.hid hm
  have HC := Lib.hid hc
  have HC2 := Lib.hid hc2
  clear hn hm hc hc2
  obtain ⟨h1, h12⟩ := of_inB hf
  go_enter Try.func130, Try.ntmps130
  go_wp2_with (go_at_call 153; refine (placesFit_any _ _).mono ?_; rintro e w1 ⟨rfl, rfl⟩)
  go_loopw [21] (fun i wr => ∃ k : Nat, k ≤ n ∧ i = .int .i64 k ∧ Hid (∀ j, j < k → okP (ts.getD j .empty) (rs.getD j 0) = true) ∧
      Below (w.alloc (.cells #[.slice (some ⟨b, o, none⟩) n c, .slice (some ⟨b2, o2, none⟩) n d] 26)).heap.size (w.alloc (.cells #[.slice (some ⟨b, o, none⟩) n c, .slice (some ⟨b2, o2, none⟩) n d] 26)) wr)
    (fun i _ => n - (intOf i).toNat)
  case atStart => exact ⟨0, Nat.zero_le _, rfl, Lib.hid (fun j hj => absurd hj (Nat.not_lt_zero j)), Below.refl _ _⟩
  case round =>
    obtain ⟨k, hk, rfl, HR, hbl⟩ := hrel
    have hcr := kc hbl
    have hsz := hbl.size
    simp only [World.size_alloc] at hcr hsz
    by_cases hlt : k < n
    · have c1 : wr.cell? ⟨b, o + k, none⟩ = some (.string (ts.getD k .empty)) := by rw [hcr _ _ (by omega), World.cell?_alloc_lt _ _ _ hb]; exact HC.out k hlt
      have c2 : wr.cell? ⟨b2, o2 + k, none⟩ = some (.int .i64 (rs.getD k 0)) := by rw [hcr _ _ (by omega), World.cell?_alloc_lt _ _ _ hb2]; exact HC2.out k hlt
      have hs := hsm k
      have hb' : b < wr.heap.size := by omega
      have hb2' : b2 < wr.heap.size := by omega
      have hz := hbl.size
      clear hsm
      generalize hse : ts.getD k .empty = s at c1 hs
      generalize hre : rs.getD k 0 = r at c2
      have HS := Lib.hid hse
      have HR2 := Lib.hid hre
      clear hse hre
      go_wp2_with (first
        | (go_at_call 154; refine (in_any s r k b b2 o o2 n c n d wr hlt hlt c1 c2 hb' hb2').mono ?_; rintro e w2 ⟨rfl, hb3⟩)
        | (go_at_call 155; refine (pageok_any s r _ hs).mono ?_; rintro e w3 ⟨rfl, hb4⟩))
      · have hok : okP s r = false := by simpa using ‹(!okP s r) = true›
        go_ret
        refine ⟨ret_bool (okPg_at (k := k) (by rw [HM.out]; exact hlt) (by rw [HS.out, HR2.out]; exact hok)).symm, ?_⟩
        exact ((Below.refl _ _).alloc (Nat.le_refl _) _).trans ((hbl.mono (by simp)).trans ((hb3.mono (by omega)).trans (hb4.mono (by have := hb3.size; omega))))
      · have hok : okP s r = true := by simpa using ‹(!okP s r) = false›
        go_roundw
        case rel =>
          refine ⟨k + 1, by omega, by go_num, Lib.hid (fun j hj => ?_), hbl.trans ((hb3.mono hz).trans (hb4.mono (by have := hb3.size; omega)))⟩
          by_cases hjk : j = k
          · rw [hjk, HS.out, HR2.out]; exact hok
          · exact HR.out j (by omega)
        case measure => simp [intOf]; omega
    · obtain rfl : k = n := by omega
      clear HC HC2 hcr
      go_wp2
      go_ret
      refine ⟨ret_bool (okPg_all (HN.out.trans HM.out.symm) (by rw [HM.out]; omega) (by rw [HM.out]; exact HR.out)).symm, ?_⟩
      exact ((Below.refl _ _).alloc (Nat.le_refl _) _).trans (hbl.mono (by simp))

theorem ok_any (hp : Pg w A n B m ts rs) :
    Calls Try.prog 130 #[.agg #[.slice A n c, .slice B m d]] w fun e w' => e = .returned (.bool (okPg ts rs)) ∧ Below w.heap.size w w' := by
  by_cases hne : n = m
  · subst hne
    by_cases hf : inB n 1 12 = true
    · have hf' := of_inB hf
      obtain ⟨b, o, rfl, hb, hc⟩ := hp.tc (by omega)
      obtain ⟨b2, o2, rfl, hb2, hc2⟩ := hp.rc (by omega)
      exact ok_main b o b2 o2 hf hp.small hb hb2 hp.tl hp.rl hc hc2
    · have hf' : inB n 1 12 = false := by simpa using hf
      have : okPg ts rs = false := okPg_fit (by have := of_inB_not hf'; rw [hp.rl]; omega)
      rw [this]
      exact ok_fit hf'
  · have : okPg ts rs = false := okPg_len (by rw [hp.tl, hp.rl]; exact hne)
    rw [this]
    exact ok_len hne
end
theorem okP_zero {s : ByteArray} {r : Int} (h : r = 0) : okP s r = decide ((s.size : Int) = 0) := by
  subst h
  have e : (s.toList = []) ↔ (s.size : Int) = 0 := by rw [ByteArray.toList_eq, Array.toList_eq_nil_iff, ← Array.size_eq_zero_iff]; show s.size = 0 ↔ _; omega
  unfold okP freeB
  rw [Bool.eq_iff_iff]; simp [e]
theorem okP_some {s : ByteArray} {r : Int} (h : ¬ r = 0) : okP s r = decide ((0 ≤ r ∧ r ≤ 99) ∧ (s.size : Int) = 4) := by
  unfold okP freeB
  rw [Bool.eq_iff_iff]; simp [h]; omega

section
variable {A : Option Addr} {n c : Nat} {B : Option Addr} {m d : Nat} {ts : List ByteArray} {rs : List Int} {w : World}

theorem oks_len (hne : n ≠ m) :
    Calls Try.prog 50 #[.agg #[.slice A n c, .slice B m d]] w fun e w' => e = .returned (.bool false) ∧ Below w.heap.size w w' := by
  have hnm : ((n : Int) != m) = true := by rw [bne_iff_ne]; omega
  clear hne
  go_enter Try.func50, Try.ntmps50
  go_wp2_with fail
  go_ret
  exact ⟨rfl, (Below.refl _ _).alloc (Nat.le_refl _) _⟩

theorem oks_fit (hf : inB n 1 12 = false) :
    Calls Try.prog 50 #[.agg #[.slice A n c, .slice B n d]] w fun e w' => e = .returned (.bool false) ∧ Below w.heap.size w w' := by
  go_enter Try.func50, Try.ntmps50
  go_wp2_with (go_at_call 51; refine (l6In_any _ _ _ _).mono ?_; rintro e w1 ⟨rfl, rfl⟩)
  go_ret
  exact ⟨rfl, (Below.refl _ _).alloc (Nat.le_refl _) _⟩

theorem oks_main (b o b2 o2 : Nat) (hf : inB n 1 12 = true) (hsm : ∀ k, (ts.getD k .empty).size ≤ maxLen) (hb : b < w.heap.size) (hb2 : b2 < w.heap.size)
    (hn : ts.length = n) (hm : rs.length = n)
    (hc : ∀ k, k < n → w.cell? ⟨b, o + k, none⟩ = some (.string (ts.getD k .empty))) (hc2 : ∀ k, k < n → w.cell? ⟨b2, o2 + k, none⟩ = some (.int .i64 (rs.getD k 0))) :
    Calls Try.prog 50 #[.agg #[.slice (some ⟨b, o, none⟩) n c, .slice (some ⟨b2, o2, none⟩) n d]] w fun e w' => e = .returned (.bool (okPg ts rs)) ∧ Below w.heap.size w w' := by
  have HN := Lib.hid hn
  have HM := Lib.hid hm
  have HC := Lib.hid hc
  have HC2 := Lib.hid hc2
  clear hn hm hc hc2
  obtain ⟨h1, h12⟩ := of_inB hf
  go_enter Try.func50, Try.ntmps50
  go_wp2_with (go_at_call 51; refine (l6In_any _ _ _ _).mono ?_; rintro e w1 ⟨rfl, rfl⟩)
  go_loop [3] (fun i => ∃ k : Nat, k ≤ n ∧ i = .int .i64 k ∧ Hid (∀ j, j < k → okP (ts.getD j .empty) (rs.getD j 0) = true))
    (fun i => n - (intOf i).toNat)
  case atStart => exact ⟨0, Nat.zero_le _, rfl, Lib.hid (fun j hj => absurd hj (Nat.not_lt_zero j))⟩
  case round =>
    obtain ⟨k, hk, rfl, HR⟩ := hrel
    by_cases hlt : k < n
    · have c1 : w.cell? ⟨b, o + k, none⟩ = some (.string (ts.getD k .empty)) := HC.out k hlt
      have c2 : w.cell? ⟨b2, o2 + k, none⟩ = some (.int .i64 (rs.getD k 0)) := HC2.out k hlt
      have hs := hsm k
      unfold maxLen at hs
      clear hsm
      generalize hse : ts.getD k .empty = s at c1 hs
      generalize hre : rs.getD k 0 = r at c2
      have HS := Lib.hid hse
      have HR2 := Lib.hid hre
      clear hse hre
      by_cases hr0 : r = 0
      · have hx := okP_zero (s := s) hr0
        have hin : inB r 0 99 = true := inB_of (by omega)
        have hrb : (r == 0) = true := by rw [beq_iff_eq]; exact hr0
        have HX := Lib.hid hx
        clear hx hr0
        go_wp2_with (go_at_call 51; refine (l6In_any _ _ _ _).mono ?_; rintro e w1 ⟨rfl, rfl⟩)
        · have hok : okP s r = false := by rw [HX.out]; have hq : (((s.size : Int)) != 0) = true := ‹_›; simp at hq ⊢; omega
          go_ret
          exact ⟨ret_bool (okPg_at (k := k) (by rw [HM.out]; exact hlt) (by rw [HS.out, HR2.out]; exact hok)).symm, (Below.refl _ _).alloc (Nat.le_refl _) _⟩
        · have hok : okP s r = true := by rw [HX.out]; have hq : (((s.size : Int)) != 0) = false := ‹_›; simp at hq ⊢; omega
          go_round
          case rel =>
            refine ⟨k + 1, by omega, by go_num, Lib.hid (fun j hj => ?_)⟩
            by_cases hjk : j = k
            · rw [hjk, HS.out, HR2.out]; exact hok
            · exact HR.out j (by omega)
          case measure => simp [intOf]; omega
      · have hx := okP_some (s := s) hr0
        have hrb : (r == 0) = false := by rw [beq_eq_false_iff_ne]; exact hr0
        have HX := Lib.hid hx
        clear hx hr0
        by_cases hin : inB r 0 99 = true
        · have hin2 := of_inB hin
          have HI := Lib.hid hin2
          clear hin2
          go_wp2_with (go_at_call 51; refine (l6In_any _ _ _ _).mono ?_; rintro e w1 ⟨rfl, rfl⟩)
          · have hok : okP s r = false := by rw [HX.out]; have hq : (((s.size : Int)) != 4) = true := ‹_›; have hi := HI.out; simp at hq ⊢; omega
            go_ret
            exact ⟨ret_bool (okPg_at (k := k) (by rw [HM.out]; exact hlt) (by rw [HS.out, HR2.out]; exact hok)).symm, (Below.refl _ _).alloc (Nat.le_refl _) _⟩
          · have hok : okP s r = true := by rw [HX.out]; have hq : (((s.size : Int)) != 4) = false := ‹_›; have hi := HI.out; simp at hq ⊢; omega
            go_round
            case rel =>
              refine ⟨k + 1, by omega, by go_num, Lib.hid (fun j hj => ?_)⟩
              by_cases hjk : j = k
              · rw [hjk, HS.out, HR2.out]; exact hok
              · exact HR.out j (by omega)
            case measure => simp [intOf]; omega
        · have hin' : inB r 0 99 = false := by simpa using hin
          have hok : okP s r = false := by rw [HX.out]; have := of_inB_not hin'; simp; omega
          have HOK := Lib.hid hok
          clear hin hok
          go_wp2_with (go_at_call 51; refine (l6In_any _ _ _ _).mono ?_; rintro e w1 ⟨rfl, rfl⟩)
          go_ret
          exact ⟨ret_bool (okPg_at (k := k) (by rw [HM.out]; exact hlt) (by rw [HS.out, HR2.out]; exact HOK.out)).symm, (Below.refl _ _).alloc (Nat.le_refl _) _⟩
    · obtain rfl : k = n := by omega
      clear HC HC2
      go_wp2
      go_ret
      exact ⟨ret_bool (okPg_all (HN.out.trans HM.out.symm) (by rw [HM.out]; omega) (by rw [HM.out]; exact HR.out)).symm, (Below.refl _ _).alloc (Nat.le_refl _) _⟩

theorem oks_any (hp : Pg w A n B m ts rs) :
    Calls Try.prog 50 #[.agg #[.slice A n c, .slice B m d]] w fun e w' => e = .returned (.bool (okPg ts rs)) ∧ Below w.heap.size w w' := by
  by_cases hne : n = m
  · subst hne
    by_cases hf : inB n 1 12 = true
    · have hf' := of_inB hf
      obtain ⟨b, o, rfl, hb, hc⟩ := hp.tc (by omega)
      obtain ⟨b2, o2, rfl, hb2, hc2⟩ := hp.rc (by omega)
      exact oks_main b o b2 o2 hf hp.small hb hb2 hp.tl hp.rl hc hc2
    · have hf' : inB n 1 12 = false := by simpa using hf
      have : okPg ts rs = false := okPg_fit (by have := of_inB_not hf'; rw [hp.rl]; omega)
      rw [this]
      exact oks_fit hf'
  · have : okPg ts rs = false := okPg_len (by rw [hp.tl, hp.rl]; exact hne)
    rw [this]
    exact oks_len hne
end
end Go.Proofs.Ytfmbadhiflaldaa

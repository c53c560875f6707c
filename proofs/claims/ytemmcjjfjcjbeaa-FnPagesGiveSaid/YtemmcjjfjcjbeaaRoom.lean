/-
  PagesRoom of the program and of the model: each answers how many places are free, or -1.
-/
import Derived.Test.YtemmcjjfjcjbeaaMark
namespace Go.Proofs.Ytemmcjjfjcjbeaa
open Go.RowKit

/-- how many of the first k places nobody refers to -/
def freeTo (rs : List Int) : Nat → Int
  | 0 => 0
  | k + 1 => freeTo rs k + if rs.getD k 0 = 0 then 1 else 0
theorem freeTo_le (rs : List Int) : ∀ k, 0 ≤ freeTo rs k ∧ freeTo rs k ≤ k
  | 0 => by simp [freeTo]
  | k + 1 => by
    have := freeTo_le rs k
    simp only [freeTo]
    split <;> omega
theorem freeTo_yes {rs : List Int} {k : Nat} (h : rs.getD k 0 = 0) : freeTo rs (k + 1) = freeTo rs k + 1 := by simp only [freeTo, if_pos h]
theorem freeTo_no {rs : List Int} {k : Nat} (h : ¬ rs.getD k 0 = 0) : freeTo rs (k + 1) = freeTo rs k := by simp only [freeTo, if_neg h]; omega
/-- what PagesRoom answers -/
def roomOf (ts : List ByteArray) (rs : List Int) : Int := if okPg ts rs = true then freeTo rs rs.length else -1
theorem roomOf_yes {ts : List ByteArray} {rs : List Int} (h : okPg ts rs = true) : roomOf ts rs = freeTo rs rs.length := if_pos h
theorem roomOf_no {ts : List ByteArray} {rs : List Int} (h : okPg ts rs = false) : roomOf ts rs = -1 := by unfold roomOf; rw [h]; rfl
theorem okPg_parts {ts : List ByteArray} {rs : List Int} (h : okPg ts rs = true) : ts.length = rs.length ∧ (1 ≤ rs.length ∧ rs.length ≤ 12) ∧ ∀ k, k < rs.length → okP (ts.getD k .empty) (rs.getD k 0) = true := of_decide_eq_true h
theorem free_of_ok {s : ByteArray} {r : Int} (h : okP s r = true) : freeB s r = decide (r = 0) := by
  unfold freeB
  rw [Bool.eq_iff_iff]
  simp only [decide_eq_true_eq]
  refine ⟨fun g => g.2, fun g => ⟨?_, g⟩⟩
  rw [okP_zero g, decide_eq_true_eq] at h
  rw [ByteArray.toList_eq, Array.toList_eq_nil_iff, ← Array.size_eq_zero_iff]
  have : s.size = 0 := by omega
  exact this

section
variable {A : Option Addr} {n c : Nat} {B : Option Addr} {m d : Nat} {ts : List ByteArray} {rs : List Int} {w : World}

theorem room_no (hp : Pg w A n B m ts rs) (hok : okPg ts rs = false) :
    Calls Try.prog 26 #[.agg #[.slice A n c, .slice B m d]] w fun e w' => e = .returned (.int .i64 (-1)) ∧ Below w.heap.size w w' := by
  have H1 := Lib.hid hp
  clear hp
  go_enter Try.func26, Try.ntmps26
  have HW := Lib.hid (show Below w.heap.size w (w.alloc (.cells #[.slice A n c, .slice B m d] 27)) from (Below.refl _ _).alloc (Nat.le_refl _) _)
  go_wp2_with fail
  refine (ok_any (H1.out.below HW.out)).mono ?_
  rintro e w1 ⟨rfl, hb1⟩
  go_wp2
  go_ret
  exact ⟨rfl, HW.out.trans (hb1.mono (by simp))⟩

theorem room_main (b o b2 o2 : Nat) (hok : okPg ts rs = true) (hp : Pg w (some ⟨b, o, none⟩) n (some ⟨b2, o2, none⟩) n ts rs) (hb : b < w.heap.size) (hb2 : b2 < w.heap.size)
    (hc : ∀ k, k < n → w.cell? ⟨b, o + k, none⟩ = some (.string (ts.getD k .empty))) (hc2 : ∀ k, k < n → w.cell? ⟨b2, o2 + k, none⟩ = some (.int .i64 (rs.getD k 0))) :
    Calls Try.prog 26 #[.agg #[.slice (some ⟨b, o, none⟩) n c, .slice (some ⟨b2, o2, none⟩) n d]] w fun e w' => e = .returned (.int .i64 (freeTo rs n)) ∧ Below w.heap.size w w' := by
  have H1 := Lib.hid hp
  have HC := Lib.hid hc
  have HC2 := Lib.hid hc2
  have HK := Lib.hid (okPg_parts hok)
  have HM := Lib.hid hp.rl
  have h12 : n ≤ 12 := by have := HK.out.2.1.2; have := HM.out; omega
  clear hp hc hc2
  go_enter Try.func26, Try.ntmps26
  have HW := Lib.hid (show Below w.heap.size w (w.alloc (.cells #[.slice (some ⟨b, o, none⟩) n c, .slice (some ⟨b2, o2, none⟩) n d] 27)) from (Below.refl _ _).alloc (Nat.le_refl _) _)
  have B1 := Lib.hid (Box.new w #[.slice (some ⟨b, o, none⟩) n c, .slice (some ⟨b2, o2, none⟩) n d] 27)
  go_wp2_with fail
  refine (ok_any (H1.out.below HW.out)).mono ?_
  rintro e w1 ⟨rfl, hb1⟩
  have B2 := Lib.hid (B1.out.below hb1 (by simp))
  have HW1 := Lib.hid (HW.out.trans (hb1.mono (by simp)))
  clear hb1 B1 HW
  have p0 := B2.out.cell 0
  have p1 := B2.out.cell 1
  simp at p0 p1
  go_wp2_with fail
  go_loopw [3, 11] (fun r i wr => ∃ k : Nat, k ≤ n ∧ i = .int .i64 k ∧ r = .int .i64 (freeTo rs k) ∧ Below w1.heap.size w1 wr) (fun _ i _ => n - (intOf i).toNat)
  case atStart => exact ⟨0, Nat.zero_le _, rfl, rfl, Below.refl _ _⟩
  case round =>
    obtain ⟨k, hk, rfl, rfl, hbl⟩ := hrel
    have hfl := freeTo_le rs k
    have B3 := Lib.hid (B2.out.below hbl B2.out.lt)
    have HWl := Lib.hid (HW1.out.trans (hbl.mono HW1.out.size))
    have hlt1 := B3.out.lt
    by_cases hlt : k < n
    · have c1 : wr.cell? ⟨b, o + k, none⟩ = some (.string (ts.getD k .empty)) := (kc HWl.out _ _ hb).trans (HC.out k hlt)
      have c2 : wr.cell? ⟨b2, o2 + k, none⟩ = some (.int .i64 (rs.getD k 0)) := (kc HWl.out _ _ hb2).trans (HC2.out k hlt)
      have hfr := free_of_ok (HK.out.2.2 k (by rw [HM.out]; exact hlt))
      have hb' : b < wr.heap.size := Nat.lt_of_lt_of_le hb HWl.out.size
      have hb2' : b2 < wr.heap.size := Nat.lt_of_lt_of_le hb2 HWl.out.size
      generalize hse : ts.getD k .empty = s at c1 hfr
      clear hse
      have q0 := B3.out.cell 0
      have q1 := B3.out.cell 1
      simp at q0 q1
      by_cases hr : rs.getD k 0 = 0
      all_goals
        first | have HX := Lib.hid (freeTo_yes hr) | have HX := Lib.hid (freeTo_no hr)
        have HFR : freeB s (rs.getD k 0) = decide (rs.getD k 0 = 0) := hfr
        first | rw [decide_eq_true hr] at HFR | rw [decide_eq_false hr] at HFR
        clear hfr hr
        generalize rs.getD k 0 = r at c2 HFR
        clear p0 p1
        go_wp2_with (first
          | (go_at_call 66; refine (in_any s r k b b2 o o2 n c n d wr hlt hlt c1 c2 hb' hb2').mono ?_; rintro e w2 ⟨rfl, hb3⟩)
          | (go_at_call 68; refine (free_any s r _).mono ?_; rintro e w3 ⟨rfl, hb4⟩))
        go_roundw
        case rel => exact ⟨k + 1, by omega, by go_num, by rw [HX.out], hbl.trans ((hb3.mono hbl.size).trans (hb4.mono (Nat.le_trans hbl.size hb3.size)))⟩
        case measure => simp [intOf]; omega
    · obtain rfl : k = n := by omega
      clear HC HC2 p0 p1
      go_wp2
      go_ret
      exact ⟨rfl, HWl.out⟩

theorem room_any (hp : Pg w A n B m ts rs) :
    Calls Try.prog 26 #[.agg #[.slice A n c, .slice B m d]] w fun e w' => e = .returned (.int .i64 (roomOf ts rs)) ∧ Below w.heap.size w w' := by
  by_cases hok : okPg ts rs = true
  · have hk := okPg_parts hok
    have h1 := hp.tl
    have h2 := hp.rl
    obtain rfl : n = m := by omega
    obtain ⟨b, o, rfl, hb, hc⟩ := hp.tc (by omega)
    obtain ⟨b2, o2, rfl, hb2, hc2⟩ := hp.rc (by omega)
    rw [roomOf_yes hok, h2]
    exact room_main b o b2 o2 hok hp hb hb2 hc hc2
  · have hok' : okPg ts rs = false := by simpa using hok
    rw [roomOf_no hok']
    exact room_no hp hok'

theorem l1Room_any (hr : Row w B m fun k => .int .i64 (rs.getD k 0)) (hm : m ≤ 12) :
    Calls Try.prog 70 #[.agg #[.slice A n c, .slice B m d]] w fun e w' => e = .returned (.int .i64 (freeTo rs m)) ∧ Below w.heap.size w w' := by
  have HR := Lib.hid hr
  clear hr
  go_enter Try.func70, Try.ntmps70
  go_wp2
  go_loop [3, 4] (fun r i => ∃ k : Nat, k ≤ m ∧ i = .int .i64 k ∧ r = .int .i64 (freeTo rs k)) (fun _ i => m - (intOf i).toNat)
  case atStart => exact ⟨0, Nat.zero_le _, rfl, rfl⟩
  case round =>
    obtain ⟨k, hk, rfl, rfl⟩ := hrel
    have hfl := freeTo_le rs k
    by_cases hlt : k < m
    · obtain ⟨b, o, rfl, hb, hc⟩ := HR.out (by omega)
      have c1 : w.cell? ⟨b, o + k, none⟩ = some (.int .i64 (rs.getD k 0)) := hc k hlt
      clear hc
      by_cases hr : rs.getD k 0 = 0
      all_goals
        first | have HX := Lib.hid (freeTo_yes hr) | have HX := Lib.hid (freeTo_no hr)
        first | have hrb : (rs.getD k 0 == 0) = true := by (rw [beq_iff_eq]; exact hr) | have hrb : (rs.getD k 0 == 0) = false := by (rw [beq_eq_false_iff_ne]; exact hr)
        clear hr
        generalize rs.getD k 0 = r at c1 hrb
        go_wp2
        go_round
        case rel => exact ⟨k + 1, by omega, by go_num, by rw [HX.out]⟩
        case measure => simp [intOf]; omega
    · obtain rfl : k = m := by omega
      go_wp2
      go_ret
      exact ⟨rfl, (Below.refl _ _).alloc (Nat.le_refl _) _⟩

theorem rooms_any (hp : Pg w A n B m ts rs) :
    Calls Try.prog 30 #[.agg #[.slice A n c, .slice B m d]] w fun e w' => e = .returned (.int .i64 (roomOf ts rs)) ∧ Below w.heap.size w w' := by
  have H1 := Lib.hid hp
  clear hp
  have HW := Lib.hid (show Below w.heap.size w (w.alloc (.cells #[.slice A n c, .slice B m d] 27)) from (Below.refl _ _).alloc (Nat.le_refl _) _)
  have B1 := Lib.hid (Box.new w #[.slice A n c, .slice B m d] 27)
  by_cases hok : okPg ts rs = true
  · have HRO := Lib.hid (roomOf_yes hok)
    have HK := Lib.hid (okPg_parts hok)
    have hm : m ≤ 12 := by have := HK.out.2.1.2; have := H1.out.rl; omega
    go_enter Try.func30, Try.ntmps30
    go_wp2_with fail
    refine (oks_any (H1.out.below HW.out)).mono ?_
    rintro e w1 ⟨rfl, hb1⟩
    have B2 := Lib.hid (B1.out.below hb1 (by simp))
    have HW1 := Lib.hid (HW.out.trans (hb1.mono (by simp)))
    clear hb1 B1 HW
    have p0 := B2.out.cell 0
    have p1 := B2.out.cell 1
    simp at p0 p1
    go_wp2_with fail
    refine (l1Room_any ((H1.out.below HW1.out).rc) hm).mono ?_
    rintro e w2 ⟨rfl, hb2⟩
    clear p0 p1
    go_wp2
    go_ret
    exact ⟨ret_int (by rw [HRO.out, H1.out.rl]), HW1.out.trans (hb2.mono HW1.out.size)⟩
  · have hok' : okPg ts rs = false := by simpa using hok
    have HRO := Lib.hid (roomOf_no hok')
    clear hok
    go_enter Try.func30, Try.ntmps30
    go_wp2_with fail
    refine (oks_any (H1.out.below HW.out)).mono ?_
    rintro e w1 ⟨rfl, hb1⟩
    go_wp2
    go_ret
    exact ⟨ret_int HRO.out.symm, HW.out.trans (hb1.mono (by simp))⟩
end
end Go.Proofs.Ytemmcjjfjcjbeaa

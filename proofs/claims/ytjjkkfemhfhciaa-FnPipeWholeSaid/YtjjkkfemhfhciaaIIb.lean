/-
  The program's PipePut and PipeTake.
-/
import Derived.Test.YtjjkkfemhfhciaaIIa
namespace Go.Proofs.Ytjjkkfemhfhciaa
open Go.RowKit

section
variable {w : World}
theorem putI_fit (t x : ByteArray) (r k : Int) (hr : ¬ r = 0) (ht : t.size ≤ 8) :
    putI t r k x = if fitN t x = 0 ∧ ¬ x.size = 0 then ((t, r, k), 0, 2) else ((t ++ x.extract 0 (fitN t x), r, k), ((fitN t x : Nat) : Int), 0) := by
  unfold putI
  rw [if_neg hr]
  by_cases hx : x.size = 0
  · have h0 : fitN t x = 0 := by unfold fitN; split <;> omega
    rw [if_pos hx, if_neg (by omega), h0, emp_of (t := x.extract 0 0) (by simp)]
    rw [show t ++ (⟨#[]⟩ : ByteArray) = t from ByteArray.append_empty]
    rfl
  · rw [if_neg hx]
    by_cases h2 : t.size = 8 ∨ (8 - t.size < x.size ∧ x.size ≤ 4)
    · rw [if_pos h2, if_pos ⟨by unfold fitN; split <;> omega, hx⟩]
    · have h0 : fitN t x = min (8 - t.size) x.size := by
        unfold fitN
        rw [if_neg (by omega)]
        omega
      rw [if_neg h2, if_neg (by omega), h0]
theorem takI_cut (t : ByteArray) (r k : Int) (m : Nat) :
    takI t r k (m : Int) = ((t.extract (min m t.size) t.size, r, k), t.extract 0 (min m t.size), if ¬ min m t.size = 0 ∨ m = 0 then 0 else if k = 0 then 3 else 2) := by
  unfold takI
  by_cases h1 : m = 0
  · subst h1
    rw [if_pos (by rfl), if_pos (Or.inr rfl), Nat.min_eq_left (Nat.zero_le _), emp_of (t := t.extract 0 0) (by simp)]
    simp
  · rw [if_neg (by omega)]
    by_cases h2 : t.size = 0
    · obtain rfl := emp_of h2
      rw [if_pos h2, h2, Nat.min_zero, emp_of (t := (⟨#[]⟩ : ByteArray).extract 0 0) (by simp), if_neg (show ¬ (¬ (0 = 0) ∨ m = 0) by omega)]
    · rw [if_neg h2, if_pos (Or.inl (by omega)), Int.toNat_natCast]
theorem emp_is (t : ByteArray) : t.toList.isEmpty = decide (t.size = 0) := by
  rw [← emp_list]
  cases t.toList <;> rfl
theorem ext_list (t : ByteArray) (n : Nat) (h : n ≤ t.size) : (t.extract 0 n).toList.isEmpty = decide (n = 0) := by
  rw [emp_is]
  simp only [ByteArray.size_extract, Nat.sub_zero, Nat.min_eq_left h]

set_option maxHeartbeats 2000000 in
theorem pipePutI : IPut 24 := by
  intro w t r k x ht hx
  have HT := Lib.hid ht
  have HXX := Lib.hid hx
  have hS : putR t r k x = if (piB t r k && !decide (k = 0)) = true then putI t r k x else (piZ, 0, 1) := rfl
  clear ht hx
  have X0 := Lib.hid ((Box.new w #[.string t, .int .i64 r, .int .i64 k] 24).alloc (.cells #[.string ⟨#[]⟩, .int .i64 0, .int .i64 0] 24))
  have Y0 := Lib.hid (Box.new (w.alloc (.cells #[.string t, .int .i64 r, .int .i64 k] 24)) #[.string ⟨#[]⟩, .int .i64 0, .int .i64 0] 24)
  simp only [World.size_alloc] at Y0
  have HB0 := Lib.hid (show Below w.heap.size w ((w.alloc (.cells #[.string t, .int .i64 r, .int .i64 k] 24)).alloc (.cells #[.string ⟨#[]⟩, .int .i64 0, .int .i64 0] 24)) from ((Below.refl _ _).alloc (Nat.le_refl _) _).alloc (by simp only [World.size_alloc]; omega) _)
  go_enter Try.func24, Try.ntmps24
  go_wp2_with fail
  refine (pipeOkI t r k HT.out).mono ?_
  rintro e w1 ⟨rfl, hb1⟩
  have HB1 := Lib.hid (HB0.out.trans (hb1.mono HB0.out.size))
  have X1 := Lib.hid (X0.out.below hb1 X0.out.lt)
  have Y1 := Lib.hid (Y0.out.below hb1 Y0.out.lt)
  clear hb1
  have x0 := X1.out.cell 0
  have x1 := X1.out.cell 1
  have x2 := X1.out.cell 2
  have xf0 := X1.out.frz 0
  have xf1 := X1.out.frz 1
  have xf2 := X1.out.frz 2
  have xl := X1.out.lt
  have y0 := Y1.out.cell 0
  have y1 := Y1.out.cell 1
  have y2 := Y1.out.cell 2
  have yf0 := Y1.out.frz 0
  have yf1 := Y1.out.frz 1
  have yf2 := Y1.out.frz 2
  have yl := Y1.out.lt
  simp at x0 x1 x2 y0 y1 y2
  have HB := HB1
  by_cases hc : piB t r k = true
  · have h8 : t.size ≤ 8 := pi_size hc
    have HC := Lib.hid hc
    rw [hc] at hS ⊢
    clear hc
    by_cases h0 : k = 0
    · have e0 : (k == 0) = true := by rw [beq_iff_eq]; exact h0
      rw [decide_eq_true h0, if_neg (by decide)] at hS
      have HS := Lib.hid hS
      clear hS h0
      go_wp2_with fail
      exact bodyPost_ret (v := .tuple #[.agg #[.string (⟨#[]⟩), .int .i64 (0), .int .i64 (0)], .int .i64 0, .int .i64 1]) (by simp [results, Try.results24, go_sem, y0, y1, y2]) rfl ⟨by simp only [HS.out]; try rfl, (by repeat (first | exact HB.out | exact Below.refl _ _ | refine Below.setCell ?_ (by first | exact Nat.le_refl _ | exact Nat.le_add_right _ _ | (simp only [World.size_alloc]; omega) | (simp only [World.size_setCell]; omega) | (simp only [World.size_alloc, World.size_setCell]; omega) | omega) _ | refine Below.alloc ?_ (by first | exact Nat.le_refl _ | exact Nat.le_add_right _ _ | (simp only [World.size_alloc]; omega) | (simp only [World.size_setCell]; omega) | (simp only [World.size_alloc, World.size_setCell]; omega) | omega) _ | refine Below.drew ?_))⟩
    have e0 : (k == 0) = false := by rw [beq_eq_false_iff_ne]; exact h0
    rw [decide_eq_false h0, if_pos (by rfl)] at hS
    clear h0
    by_cases h1 : r = 0
    · have e1 : (r == 0) = true := by rw [beq_iff_eq]; exact h1
      unfold putI at hS
      rw [if_pos h1] at hS
      have HS := Lib.hid hS
      clear hS h1
      go_wp2_with fail
      exact bodyPost_ret (v := .tuple #[.agg #[.string (t), .int .i64 (r), .int .i64 (k)], .int .i64 0, .int .i64 4]) (by simp [results, Try.results24, go_sem, y0, y1, y2]) rfl ⟨by simp only [HS.out]; try rfl, (by repeat (first | exact HB.out | exact Below.refl _ _ | refine Below.setCell ?_ (by first | exact Nat.le_refl _ | exact Nat.le_add_right _ _ | (simp only [World.size_alloc]; omega) | (simp only [World.size_setCell]; omega) | (simp only [World.size_alloc, World.size_setCell]; omega) | omega) _ | refine Below.alloc ?_ (by first | exact Nat.le_refl _ | exact Nat.le_add_right _ _ | (simp only [World.size_alloc]; omega) | (simp only [World.size_setCell]; omega) | (simp only [World.size_alloc, World.size_setCell]; omega) | omega) _ | refine Below.drew ?_))⟩
    have e1 : (r == 0) = false := by rw [beq_eq_false_iff_ne]; exact h1
    rw [putI_fit t x r k h1 h8] at hS
    have HP := Lib.hid (winPutI t x h8 HXX.out)
    generalize fitN t x = m at hS HP
    have HS := Lib.hid hS
    clear h1 hS HB
    go_wp2_with fail
    refine (HP.out _).mono ?_
    rintro e w2 ⟨rfl, hb2⟩
    clear x0 x1 x2 xf0 xf1 xf2 xl y0 y1 y2 yf0 yf1 yf2 yl
    have HB2 := Lib.hid (HB1.out.trans (hb2.mono HB1.out.size))
    have X2 := Lib.hid (X1.out.below hb2 X1.out.lt)
    have Y2 := Lib.hid (Y1.out.below hb2 Y1.out.lt)
    clear hb2
    have x0 := X2.out.cell 0
    have x1 := X2.out.cell 1
    have x2 := X2.out.cell 2
    have xf0 := X2.out.frz 0
    have xf1 := X2.out.frz 1
    have xf2 := X2.out.frz 2
    have xl := X2.out.lt
    have y0 := Y2.out.cell 0
    have y1 := Y2.out.cell 1
    have y2 := Y2.out.cell 2
    have yf0 := Y2.out.frz 0
    have yf1 := Y2.out.frz 1
    have yf2 := Y2.out.frz 2
    have yl := Y2.out.lt
    simp at x0 x1 x2 y0 y1 y2
    have HB := HB2
    by_cases h2 : m = 0
    · subst h2
      by_cases h3 : x.size = 0
      · have he : x.toList.isEmpty = true := by rw [emp_is, decide_eq_true h3]
        rw [if_neg (by omega)] at HS
        clear h3
        go_wp2_with fail
        exact bodyPost_ret (v := .tuple #[.agg #[.string (t ++ x.extract 0 0), .int .i64 (r), .int .i64 (k)], .int .i64 0, .int .i64 0]) (by simp [results, Try.results24, go_sem, y0, y1, y2]) rfl ⟨by simp only [HS.out]; try rfl, (by repeat (first | exact HB.out | exact Below.refl _ _ | refine Below.setCell ?_ (by first | exact Nat.le_refl _ | exact Nat.le_add_right _ _ | (simp only [World.size_alloc]; omega) | (simp only [World.size_setCell]; omega) | (simp only [World.size_alloc, World.size_setCell]; omega) | omega) _ | refine Below.alloc ?_ (by first | exact Nat.le_refl _ | exact Nat.le_add_right _ _ | (simp only [World.size_alloc]; omega) | (simp only [World.size_setCell]; omega) | (simp only [World.size_alloc, World.size_setCell]; omega) | omega) _ | refine Below.drew ?_))⟩
      · have he : x.toList.isEmpty = false := by rw [emp_is, decide_eq_false h3]
        rw [if_pos ⟨rfl, h3⟩] at HS
        clear h3
        go_wp2_with fail
        exact bodyPost_ret (v := .tuple #[.agg #[.string (t), .int .i64 (r), .int .i64 (k)], .int .i64 0, .int .i64 2]) (by simp [results, Try.results24, go_sem, y0, y1, y2]) rfl ⟨by simp only [HS.out]; try rfl, (by repeat (first | exact HB.out | exact Below.refl _ _ | refine Below.setCell ?_ (by first | exact Nat.le_refl _ | exact Nat.le_add_right _ _ | (simp only [World.size_alloc]; omega) | (simp only [World.size_setCell]; omega) | (simp only [World.size_alloc, World.size_setCell]; omega) | omega) _ | refine Below.alloc ?_ (by first | exact Nat.le_refl _ | exact Nat.le_add_right _ _ | (simp only [World.size_alloc]; omega) | (simp only [World.size_setCell]; omega) | (simp only [World.size_alloc, World.size_setCell]; omega) | omega) _ | refine Below.drew ?_))⟩
    · have e2 : ((m : Int) == 0) = false := by rw [beq_eq_false_iff_ne]; omega
      rw [if_neg (by omega)] at HS
      have l2 : ¬ ((m : Int) = 0) := by omega
      clear h2
      go_wp2_with fail
      exact bodyPost_ret (v := .tuple #[.agg #[.string (t ++ x.extract 0 m), .int .i64 (r), .int .i64 (k)], .int .i64 m, .int .i64 0]) (by simp [results, Try.results24, go_sem, y0, y1, y2]) rfl ⟨by simp only [HS.out]; try rfl, (by repeat (first | exact HB.out | exact Below.refl _ _ | refine Below.setCell ?_ (by first | exact Nat.le_refl _ | exact Nat.le_add_right _ _ | (simp only [World.size_alloc]; omega) | (simp only [World.size_setCell]; omega) | (simp only [World.size_alloc, World.size_setCell]; omega) | omega) _ | refine Below.alloc ?_ (by first | exact Nat.le_refl _ | exact Nat.le_add_right _ _ | (simp only [World.size_alloc]; omega) | (simp only [World.size_setCell]; omega) | (simp only [World.size_alloc, World.size_setCell]; omega) | omega) _ | refine Below.drew ?_))⟩
  · have hc' : piB t r k = false := by simpa using hc
    rw [hc', Bool.false_and, if_neg Bool.false_ne_true] at hS
    have HS := Lib.hid hS
    rw [hc']
    clear hS hc hc'
    go_wp2_with fail
    exact bodyPost_ret (v := .tuple #[.agg #[.string (⟨#[]⟩), .int .i64 (0), .int .i64 (0)], .int .i64 0, .int .i64 1]) (by simp [results, Try.results24, go_sem, y0, y1, y2]) rfl ⟨by simp only [HS.out]; try rfl, (by repeat (first | exact HB.out | exact Below.refl _ _ | refine Below.setCell ?_ (by first | exact Nat.le_refl _ | exact Nat.le_add_right _ _ | (simp only [World.size_alloc]; omega) | (simp only [World.size_setCell]; omega) | (simp only [World.size_alloc, World.size_setCell]; omega) | omega) _ | refine Below.alloc ?_ (by first | exact Nat.le_refl _ | exact Nat.le_add_right _ _ | (simp only [World.size_alloc]; omega) | (simp only [World.size_setCell]; omega) | (simp only [World.size_alloc, World.size_setCell]; omega) | omega) _ | refine Below.drew ?_))⟩

set_option maxHeartbeats 2000000 in
theorem pipeTakeI : ITak 27 := by
  intro w t r k m ht
  have HT := Lib.hid ht
  have hS : takR t r k m = if (piB t r k && (!decide (r = 0) && decide (0 ≤ m))) = true then takI t r k m else (piZ, ⟨#[]⟩, 1) := rfl
  clear ht
  have X0 := Lib.hid ((Box.new w #[.string t, .int .i64 r, .int .i64 k] 24).alloc (.cells #[.string ⟨#[]⟩, .int .i64 0, .int .i64 0] 24))
  have Y0 := Lib.hid (Box.new (w.alloc (.cells #[.string t, .int .i64 r, .int .i64 k] 24)) #[.string ⟨#[]⟩, .int .i64 0, .int .i64 0] 24)
  simp only [World.size_alloc] at Y0
  have HB0 := Lib.hid (show Below w.heap.size w ((w.alloc (.cells #[.string t, .int .i64 r, .int .i64 k] 24)).alloc (.cells #[.string ⟨#[]⟩, .int .i64 0, .int .i64 0] 24)) from ((Below.refl _ _).alloc (Nat.le_refl _) _).alloc (by simp only [World.size_alloc]; omega) _)
  go_enter Try.func27, Try.ntmps27
  go_wp2_with fail
  refine (pipeOkI t r k HT.out).mono ?_
  rintro e w1 ⟨rfl, hb1⟩
  have HB1 := Lib.hid (HB0.out.trans (hb1.mono HB0.out.size))
  have X1 := Lib.hid (X0.out.below hb1 X0.out.lt)
  have Y1 := Lib.hid (Y0.out.below hb1 Y0.out.lt)
  clear hb1
  have x0 := X1.out.cell 0
  have x1 := X1.out.cell 1
  have x2 := X1.out.cell 2
  have xf0 := X1.out.frz 0
  have xf1 := X1.out.frz 1
  have xf2 := X1.out.frz 2
  have xl := X1.out.lt
  have y0 := Y1.out.cell 0
  have y1 := Y1.out.cell 1
  have y2 := Y1.out.cell 2
  have yf0 := Y1.out.frz 0
  have yf1 := Y1.out.frz 1
  have yf2 := Y1.out.frz 2
  have yl := Y1.out.lt
  simp at x0 x1 x2 y0 y1 y2
  have HB := HB1
  by_cases hc : piB t r k = true
  · have h8 : t.size ≤ 8 := pi_size hc
    rw [hc] at hS ⊢
    clear hc
    by_cases h0 : r = 0
    · have e0 : (r == 0) = true := by rw [beq_iff_eq]; exact h0
      rw [decide_eq_true h0, if_neg (by simp)] at hS
      have HS := Lib.hid hS
      clear hS h0
      go_wp2_with fail
      exact bodyPost_ret (v := .tuple #[.agg #[.string (⟨#[]⟩), .int .i64 (0), .int .i64 (0)], .string ⟨#[]⟩, .int .i64 1]) (by simp [results, Try.results27, go_sem, y0, y1, y2]) rfl ⟨by simp only [HS.out]; try rfl, (by repeat (first | exact HB.out | exact Below.refl _ _ | refine Below.setCell ?_ (by first | exact Nat.le_refl _ | exact Nat.le_add_right _ _ | (simp only [World.size_alloc]; omega) | (simp only [World.size_setCell]; omega) | (simp only [World.size_alloc, World.size_setCell]; omega) | omega) _ | refine Below.alloc ?_ (by first | exact Nat.le_refl _ | exact Nat.le_add_right _ _ | (simp only [World.size_alloc]; omega) | (simp only [World.size_setCell]; omega) | (simp only [World.size_alloc, World.size_setCell]; omega) | omega) _ | refine Below.drew ?_))⟩
    have e0 : (r == 0) = false := by rw [beq_eq_false_iff_ne]; exact h0
    by_cases h1 : 0 ≤ m
    case neg =>
      have l1 : m < 0 := by omega
      rw [decide_eq_false h0, decide_eq_false h1, if_neg (by simp)] at hS
      have HS := Lib.hid hS
      clear hS h0 h1
      go_wp2_with fail
      exact bodyPost_ret (v := .tuple #[.agg #[.string (⟨#[]⟩), .int .i64 (0), .int .i64 (0)], .string ⟨#[]⟩, .int .i64 1]) (by simp [results, Try.results27, go_sem, y0, y1, y2]) rfl ⟨by simp only [HS.out]; try rfl, (by repeat (first | exact HB.out | exact Below.refl _ _ | refine Below.setCell ?_ (by first | exact Nat.le_refl _ | exact Nat.le_add_right _ _ | (simp only [World.size_alloc]; omega) | (simp only [World.size_setCell]; omega) | (simp only [World.size_alloc, World.size_setCell]; omega) | omega) _ | refine Below.alloc ?_ (by first | exact Nat.le_refl _ | exact Nat.le_add_right _ _ | (simp only [World.size_alloc]; omega) | (simp only [World.size_setCell]; omega) | (simp only [World.size_alloc, World.size_setCell]; omega) | omega) _ | refine Below.drew ?_))⟩
    obtain ⟨n, rfl⟩ : ∃ n : Nat, m = n := ⟨m.toNat, by omega⟩
    rw [decide_eq_false h0, decide_eq_true h1, if_pos (by rfl), takI_cut] at hS
    have HP := Lib.hid (winTakeI t n h8)
    have hle : min n t.size ≤ t.size := Nat.min_le_right _ _
    have he0 := ext_list t _ hle
    have hm0 : min n t.size ≤ n := Nat.min_le_left _ _
    clear hle h0
    generalize hN : min n t.size = N at hS HP he0 hm0
    clear hN
    generalize t.extract N t.size = a at hS HP
    generalize hb' : t.extract 0 N = b at hS HP he0
    have hbz : N = 0 → b = ⟨#[]⟩ := fun h => by rw [← hb', h]; exact emp_of (by simp)
    clear hb'
    have HBZ := Lib.hid hbz
    clear hbz
    have HS := Lib.hid hS
    have HE := Lib.hid he0
    clear hS HB he0
    go_wp2_with fail
    refine (HP.out _).mono ?_
    rintro e w2 ⟨rfl, hb2⟩
    clear x0 x1 x2 xf0 xf1 xf2 xl y0 y1 y2 yf0 yf1 yf2 yl
    have HB2 := Lib.hid (HB1.out.trans (hb2.mono HB1.out.size))
    have X2 := Lib.hid (X1.out.below hb2 X1.out.lt)
    have Y2 := Lib.hid (Y1.out.below hb2 Y1.out.lt)
    clear hb2
    have x0 := X2.out.cell 0
    have x1 := X2.out.cell 1
    have x2 := X2.out.cell 2
    have xf0 := X2.out.frz 0
    have xf1 := X2.out.frz 1
    have xf2 := X2.out.frz 2
    have xl := X2.out.lt
    have y0 := Y2.out.cell 0
    have y1 := Y2.out.cell 1
    have y2 := Y2.out.cell 2
    have yf0 := Y2.out.frz 0
    have yf1 := Y2.out.frz 1
    have yf2 := Y2.out.frz 2
    have yl := Y2.out.lt
    simp at x0 x1 x2 y0 y1 y2
    have HB := HB2
    by_cases h2 : N = 0
    · obtain rfl := HBZ.out h2
      clear HE
      by_cases h3 : n = 0
      · subst h3
        rw [if_pos (Or.inr rfl)] at HS
        clear h2
        go_wp2_with fail
        exact bodyPost_ret (v := .tuple #[.agg #[.string (a), .int .i64 (r), .int .i64 (k)], .string ⟨#[]⟩, .int .i64 0]) (by simp [results, Try.results27, go_sem, y0, y1, y2]) rfl ⟨by simp only [HS.out]; try rfl, (by repeat (first | exact HB.out | exact Below.refl _ _ | refine Below.setCell ?_ (by first | exact Nat.le_refl _ | exact Nat.le_add_right _ _ | (simp only [World.size_alloc]; omega) | (simp only [World.size_setCell]; omega) | (simp only [World.size_alloc, World.size_setCell]; omega) | omega) _ | refine Below.alloc ?_ (by first | exact Nat.le_refl _ | exact Nat.le_add_right _ _ | (simp only [World.size_alloc]; omega) | (simp only [World.size_setCell]; omega) | (simp only [World.size_alloc, World.size_setCell]; omega) | omega) _ | refine Below.drew ?_))⟩
      have l3 : ¬ ((n : Int) = 0) := by omega
      have e3 : ((n : Int) == 0) = false := by rw [beq_eq_false_iff_ne]; exact l3
      rw [if_neg (by omega)] at HS
      clear h2 h3
      by_cases h4 : k = 0
      · subst h4
        rw [if_pos rfl] at HS
        go_wp2_with fail
        exact bodyPost_ret (v := .tuple #[.agg #[.string (a), .int .i64 (r), .int .i64 (0)], .string ⟨#[]⟩, .int .i64 3]) (by simp [results, Try.results27, go_sem, y0, y1, y2]) rfl ⟨by simp only [HS.out]; try rfl, (by repeat (first | exact HB.out | exact Below.refl _ _ | refine Below.setCell ?_ (by first | exact Nat.le_refl _ | exact Nat.le_add_right _ _ | (simp only [World.size_alloc]; omega) | (simp only [World.size_setCell]; omega) | (simp only [World.size_alloc, World.size_setCell]; omega) | omega) _ | refine Below.alloc ?_ (by first | exact Nat.le_refl _ | exact Nat.le_add_right _ _ | (simp only [World.size_alloc]; omega) | (simp only [World.size_setCell]; omega) | (simp only [World.size_alloc, World.size_setCell]; omega) | omega) _ | refine Below.drew ?_))⟩
      have e4 : (k == 0) = false := by rw [beq_eq_false_iff_ne]; exact h4
      rw [if_neg h4] at HS
      clear h4
      go_wp2_with fail
      exact bodyPost_ret (v := .tuple #[.agg #[.string (a), .int .i64 (r), .int .i64 (k)], .string ⟨#[]⟩, .int .i64 2]) (by simp [results, Try.results27, go_sem, y0, y1, y2]) rfl ⟨by simp only [HS.out]; try rfl, (by repeat (first | exact HB.out | exact Below.refl _ _ | refine Below.setCell ?_ (by first | exact Nat.le_refl _ | exact Nat.le_add_right _ _ | (simp only [World.size_alloc]; omega) | (simp only [World.size_setCell]; omega) | (simp only [World.size_alloc, World.size_setCell]; omega) | omega) _ | refine Below.alloc ?_ (by first | exact Nat.le_refl _ | exact Nat.le_add_right _ _ | (simp only [World.size_alloc]; omega) | (simp only [World.size_setCell]; omega) | (simp only [World.size_alloc, World.size_setCell]; omega) | omega) _ | refine Below.drew ?_))⟩
    · have he : b.toList.isEmpty = false := by rw [HE.out, decide_eq_false h2]
      clear HE
      rw [if_pos (Or.inl h2)] at HS
      clear h2
      go_wp2_with fail
      exact bodyPost_ret (v := .tuple #[.agg #[.string (a), .int .i64 (r), .int .i64 (k)], .string b, .int .i64 0]) (by simp [results, Try.results27, go_sem, y0, y1, y2]) rfl ⟨by simp only [HS.out]; try rfl, (by repeat (first | exact HB.out | exact Below.refl _ _ | refine Below.setCell ?_ (by first | exact Nat.le_refl _ | exact Nat.le_add_right _ _ | (simp only [World.size_alloc]; omega) | (simp only [World.size_setCell]; omega) | (simp only [World.size_alloc, World.size_setCell]; omega) | omega) _ | refine Below.alloc ?_ (by first | exact Nat.le_refl _ | exact Nat.le_add_right _ _ | (simp only [World.size_alloc]; omega) | (simp only [World.size_setCell]; omega) | (simp only [World.size_alloc, World.size_setCell]; omega) | omega) _ | refine Below.drew ?_))⟩
  · have hc' : piB t r k = false := by simpa using hc
    rw [hc', Bool.false_and, if_neg Bool.false_ne_true] at hS
    have HS := Lib.hid hS
    rw [hc']
    clear hS hc hc'
    go_wp2_with fail
    exact bodyPost_ret (v := .tuple #[.agg #[.string (⟨#[]⟩), .int .i64 (0), .int .i64 (0)], .string ⟨#[]⟩, .int .i64 1]) (by simp [results, Try.results27, go_sem, y0, y1, y2]) rfl ⟨by simp only [HS.out]; try rfl, (by repeat (first | exact HB.out | exact Below.refl _ _ | refine Below.setCell ?_ (by first | exact Nat.le_refl _ | exact Nat.le_add_right _ _ | (simp only [World.size_alloc]; omega) | (simp only [World.size_setCell]; omega) | (simp only [World.size_alloc, World.size_setCell]; omega) | omega) _ | refine Below.alloc ?_ (by first | exact Nat.le_refl _ | exact Nat.le_add_right _ _ | (simp only [World.size_alloc]; omega) | (simp only [World.size_setCell]; omega) | (simp only [World.size_alloc, World.size_setCell]; omega) | omega) _ | refine Below.drew ?_))⟩
end
end Go.Proofs.Ytjjkkfemhfhciaa

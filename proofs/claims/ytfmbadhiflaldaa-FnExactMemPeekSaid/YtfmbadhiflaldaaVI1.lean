/-
  The program's AreaOk, AreasOk, AreasAt.
-/
import Derived.Test.YtfmbadhiflaldaaVAt
import Derived.Deep.RegionHeld3
namespace Go.Proofs.Ytfmbadhiflaldaa
open Go.RowKit

section
variable {w : World}
theorem endI_any (a : Ar) (h : 0 ≤ a.f ∧ a.f ≤ 100 ∧ -100 ≤ a.m ∧ a.m ≤ 100) : Calls Try.prog 97 #[.agg #[.int .i64 a.f, .int .i64 a.m, .bool a.w, .bool a.s]] w fun e w' => e = .returned (.int .i64 (a.f + a.m)) ∧ Below w.heap.size w w' := by
  obtain ⟨f, m, u, v⟩ := a
  dsimp only at h ⊢
  have w1 : IntKind.i64.wrap (f + m) = f + m := IntWalk.i64_in _ (by omega)
  clear h
  go_enter Try.func97, Try.ntmps97
  go_wp2_with fail
  go_ret
  exact ⟨rfl, (Below.refl _ _).alloc (Nat.le_refl _) _⟩

set_option maxHeartbeats 2000000 in
theorem aokI_any (a : Ar) (hm : a.m ≤ 9223372036854775807) : Calls Try.prog 104 #[.agg #[.int .i64 a.f, .int .i64 a.m, .bool a.w, .bool a.s]] w fun e w' => e = .returned (.bool (okA a)) ∧ Below w.heap.size w w' := by
  obtain ⟨f, m, u, v⟩ := a
  dsimp only at hm ⊢
  have HW := Lib.hid (show Below w.heap.size w (w.alloc (.cells #[.int .i64 f, .int .i64 m, .bool u, .bool v] 52)) from (Below.refl _ _).alloc (Nat.le_refl _) _)
  by_cases h1 : 1 ≤ m
  · by_cases h2 : 0 ≤ f
    · have w1 : IntKind.i64.wrap (16 - m) = 16 - m := IntWalk.i64_in _ (by omega)
      by_cases h3 : f ≤ 16 - m
      · have e : okA ⟨f, m, u, v⟩ = true := by unfold okA inB; simp only [Bool.and_eq_true, decide_eq_true_eq]; omega
        rw [e]
        go_enter Try.func104, Try.ntmps104
        go_wp2_with fail
        go_ret
        exact ⟨rfl, HW.out⟩
      · have e : okA ⟨f, m, u, v⟩ = false := by unfold okA inB; dsimp only; rw [← Bool.not_eq_true, Bool.and_eq_true, decide_eq_true_eq, decide_eq_true_eq]; omega
        rw [e]
        go_enter Try.func104, Try.ntmps104
        go_wp2_with fail
        go_ret
        exact ⟨rfl, HW.out⟩
    · have e : okA ⟨f, m, u, v⟩ = false := by unfold okA inB; dsimp only; rw [← Bool.not_eq_true, Bool.and_eq_true, decide_eq_true_eq, decide_eq_true_eq]; omega
      rw [e]
      go_enter Try.func104, Try.ntmps104
      go_wp2_with fail
      go_ret
      exact ⟨rfl, HW.out⟩
  · have e : okA ⟨f, m, u, v⟩ = false := by unfold okA inB; dsimp only; rw [← Bool.not_eq_true, Bool.and_eq_true, decide_eq_true_eq, decide_eq_true_eq]; omega
    rw [e]
    go_enter Try.func104, Try.ntmps104
    go_wp2_with fail
    go_ret
    exact ⟨rfl, HW.out⟩
end
/-- the page behind the first k areas -/
def endTo (l : List Ar) (k : Nat) : Int := if k = 0 then 0 else (l.getD (k - 1) .z).f + (l.getD (k - 1) .z).m
section
variable {A : Option Addr} {n c : Nat} {w : World} {l : List Ar}
set_option maxHeartbeats 2000000 in
theorem aoksI_any (hr : RowA w A n l) (hl : l.length = n) (hn : n ≤ maxLen) (ht : TopL l) :
    Calls Try.prog 103 #[.slice A n c] w fun e w' => e = .returned (.bool (okL l)) ∧ Below w.heap.size w w' := by
  have HR := Lib.hid hr
  have HL := Lib.hid hl
  have HTL := Lib.hid ht
  unfold maxLen at hn
  clear hr ht
  by_cases h6 : (n : Int) ≤ 6
  rotate_left
  · have e : okL l = false := by unfold okL; rw [hl, decide_eq_false (show ¬ n ≤ 6 by omega), Bool.and_false]
    rw [e]
    clear e hl
    go_enter Try.func103, Try.ntmps103
    go_wp2_with fail
    go_ret
    exact ⟨rfl, Below.refl _ _⟩
  have HV := Lib.hid (show okL l = okTo l n by unfold okL; rw [hl, decide_eq_true (show n ≤ 6 by omega), Bool.and_true])
  clear hl
  go_enter Try.func103, Try.ntmps103
  go_wp2_with fail
  go_loopw [3, 11] (fun z i wr => ∃ k : Nat, k ≤ n ∧ i = .int .i64 k ∧ z = .int .i64 (endTo l k) ∧ okTo l k = true ∧ Below w.heap.size w wr) (fun _ i _ => n - (intOf i).toNat)
  case atStart => exact ⟨0, Nat.zero_le _, rfl, rfl, rfl, Below.refl _ _⟩
  case round =>
    obtain ⟨k, hk, rfl, rfl, hok, hb⟩ := hrel
    have HB := Lib.hid hb
    have HOK := Lib.hid hok
    clear hb hok
    by_cases hlt : k < n
    · obtain ⟨b, o, rfl, hb0, hc⟩ := HR.out (by omega)
      have hk1 : (k : Int) < n := by omega
      have hk2 : (0 : Int) ≤ k := by omega
      obtain ⟨c0, c1, c2, c3⟩ := hc k hlt
      rw [← kc HB.out _ _ hb0] at c0 c1 c2 c3
      have htk := HTL.out k (by rw [HL.out]; exact hlt)
      have HX := Lib.hid (show okTo l (k + 1) = (okTo l k && (okA (l.getD k .z) && (decide (k = 0) || apart (l.getD (k - 1) .z) (l.getD k .z)))) from rfl)
      have HE := Lib.hid (show endTo l (k + 1) = (l.getD k .z).f + (l.getD k .z).m from rfl)
      have HP := Lib.hid (show okA (l.getD k .z) = true → (decide (k = 0) || apart (l.getD (k - 1) .z) (l.getD k .z)) = decide (endTo l k ≤ (l.getD k .z).f) from fun h => by
        have := okA_parts h
        unfold endTo apart
        by_cases e : k = 0
        · rw [if_pos e, decide_eq_true e, Bool.true_or, decide_eq_true (by omega)]
        · rw [if_neg e, decide_eq_false e, Bool.false_or])
      generalize l.getD k .z = a at c0 c1 c2 c3 htk HX HE HP
      generalize endTo l k = z at HP ⊢
      rw [HOK.out, Bool.true_and] at HX
      clear hc
      go_wp2_with fail
      refine (aokI_any a htk).mono ?_
      rintro e w1 ⟨rfl, hb1⟩
      have HB1 := Lib.hid (HB.out.trans (((Below.refl _ _).alloc (Nat.le_refl _) _ |>.trans (hb1.mono (by rw [World.size_alloc]; omega))).mono HB.out.size))
      have X1 := Lib.hid ((Box.new wr #[.int .i64 a.f, .int .i64 a.m, .bool a.w, .bool a.s] 52).below hb1 (by rw [World.size_alloc]; omega))
      clear hb1 c0 c1 c2 c3
      have x0 := X1.out.cell 0
      have x1 := X1.out.cell 1
      have x2 := X1.out.cell 2
      have x3 := X1.out.cell 3
      simp at x0 x1 x2 x3
      by_cases hok : okA a = true
      rotate_left
      · rw [Bool.not_eq_true] at hok
        rw [hok, Bool.false_and] at HX
        have HVF := Lib.hid (okTo_false (l := l) (n := n) (k := k + 1) (by omega) HX.out)
        rw [hok]
        go_wp2_with fail
        go_ret
        rw [HV.out, HVF.out]
        exact ⟨rfl, HB1.out⟩
      have hpa := okA_parts hok
      rw [HP.out hok, hok, Bool.true_and] at HX
      rw [hok]
      clear HP htk
      by_cases hz : a.f < z
      · rw [decide_eq_false (show ¬ z ≤ a.f by omega)] at HX
        have HVF := Lib.hid (okTo_false (l := l) (n := n) (k := k + 1) (by omega) HX.out)
        go_wp2_with fail
        go_ret
        rw [HV.out, HVF.out]
        exact ⟨rfl, HB1.out⟩
      · rw [decide_eq_true (show z ≤ a.f by omega)] at HX
        go_wp2_with fail
        refine (endI_any a (by omega)).mono ?_
        rintro e w2 ⟨rfl, hb2⟩
        have HB2 := Lib.hid (HB1.out.trans (hb2.mono HB1.out.size))
        clear hb2
        go_wp2_with fail
        go_roundw
        case rel => exact ⟨k + 1, by omega, by go_num, by rw [HE.out], HX.out, HB2.out⟩
        case measure => simp [intOf]; omega
    · obtain rfl : k = n := by omega
      go_wp2
      go_ret
      rw [HV.out, HOK.out]
      exact ⟨rfl, HB.out⟩

set_option maxHeartbeats 2000000 in
theorem atI_any (p : Int) (hr : RowA w A n l) (hl : l.length = n) (hn : n ≤ maxLen) (ht : TopL l) :
    Calls Try.prog 108 #[.slice A n c, .int .i64 p] w fun e w' => e = .returned (.int .i64 (atV l p)) ∧ Below w.heap.size w w' := by
  have HR := Lib.hid hr
  by_cases hok : okL l = true
  rotate_left
  · have hok' : okL l = false := by simpa using hok
    have HV := Lib.hid (show atV l p = -1 by unfold atV; rw [hok']; rfl)
    have HOK := Lib.hid hok'
    clear hok hok' hr
    go_enter Try.func108, Try.ntmps108
    go_wp2_with fail
    refine (aoksI_any HR.out hl hn ht).mono ?_
    rw [HOK.out]
    rintro e w1 ⟨rfl, hb1⟩
    go_wp2_with fail
    go_ret
    rw [HV.out]
    exact ⟨rfl, hb1⟩
  have HA := Lib.hid (show atV l p = l2AtV l p from if_pos hok)
  obtain ⟨h1, h2⟩ := okL_parts hok
  rw [hl] at h1 h2
  have HOK := Lib.hid hok
  have HO := Lib.hid h1
  have HL := Lib.hid hl
  have HTL := Lib.hid ht
  clear hok h1 hr ht hl
  go_enter Try.func108, Try.ntmps108
  go_wp2_with fail
  refine (aoksI_any HR.out HL.out hn HTL.out).mono ?_
  rw [HOK.out]
  rintro e w1 ⟨rfl, hb1⟩
  have HB0 := Lib.hid hb1
  clear hb1
  go_wp2_with fail
  go_loopw [12] (fun i wr => ∃ k : Nat, k ≤ n ∧ i = .int .i64 k ∧ Hid (∀ j, j < k → hasA (l.getD j .z) p = false) ∧ Below w.heap.size w wr) (fun i _ => n - (intOf i).toNat)
  case atStart => exact ⟨0, Nat.zero_le _, rfl, Lib.hid fun j hj => absurd hj (Nat.not_lt_zero j), HB0.out⟩
  case round =>
    obtain ⟨k, hk, rfl, HNO, hb⟩ := hrel
    have HB := Lib.hid hb
    clear hb
    by_cases hlt : k < n
    rotate_left
    · obtain rfl : k = n := by omega
      have HV := Lib.hid (show atV l p = -1 by rw [HA.out]; unfold l2AtV; rw [fstA_none l (by rw [HL.out]; exact HNO.out), if_neg (Nat.lt_irrefl _)])
      go_wp2
      go_ret
      rw [HV.out]
      exact ⟨rfl, HB.out⟩
    obtain ⟨b, o, rfl, hb0, hc⟩ := HR.out (by omega)
    have hk1 : (k : Int) < n := by omega
    have hk2 : (0 : Int) ≤ k := by omega
    obtain ⟨c0, c1, c2, c3⟩ := hc k hlt
    rw [← kc HB.out _ _ hb0] at c0 c1 c2 c3
    have hpa := okA_parts (okTo_at HO.out hlt)
    generalize hae : l.getD k .z = a at c0 c1 c2 c3 hpa
    have HAE := Lib.hid hae
    have HBA := Lib.hid (HB.out.alloc (o := .cells #[.int .i64 a.f, .int .i64 a.m, .bool a.w, .bool a.s] 52) HB.out.size)
    have X0 := Lib.hid (Box.new wr #[.int .i64 a.f, .int .i64 a.m, .bool a.w, .bool a.s] 52)
    clear hae hc
    by_cases hp1 : a.f ≤ p
    rotate_left
    · have hno : hasA a p = false := by unfold hasA; exact inB_not (by omega)
      have HNN := Lib.hid (show ∀ j, j < k + 1 → hasA (l.getD j .z) p = false from fun j hj => by
        rcases Nat.lt_or_ge j k with h | h
        · exact HNO.out j h
        · obtain rfl : j = k := by omega
          rw [HAE.out]; exact hno)
      clear hno
      go_wp2_with fail
      go_roundw
      case rel => exact ⟨k + 1, by omega, by go_num, HNN, HBA.out⟩
      case measure => simp [intOf]; omega
    go_wp2_with fail
    refine (endI_any a (by omega)).mono ?_
    rintro e w2 ⟨rfl, hb2⟩
    have HB2 := Lib.hid (HBA.out.trans (hb2.mono HBA.out.size))
    clear hb2
    by_cases hp2 : p < a.f + a.m
    · have hyes : hasA a p = true := by unfold hasA; exact inB_of (by omega)
      have HV := Lib.hid (show atV l p = k by rw [HA.out]; unfold l2AtV; rw [fstA_eq l k (by rw [HL.out]; exact hlt) (by rw [HAE.out]; exact hyes) HNO.out, if_pos (by rw [HL.out]; exact hlt)])
      clear hyes
      go_wp2_with fail
      go_ret
      rw [HV.out]
      exact ⟨rfl, HB2.out⟩
    · have hno : hasA a p = false := by unfold hasA; exact inB_not (by omega)
      have HNN := Lib.hid (show ∀ j, j < k + 1 → hasA (l.getD j .z) p = false from fun j hj => by
        rcases Nat.lt_or_ge j k with h | h
        · exact HNO.out j h
        · obtain rfl : j = k := by omega
          rw [HAE.out]; exact hno)
      clear hno
      go_wp2_with fail
      go_roundw
      case rel => exact ⟨k + 1, by omega, by go_num, HNN, HB2.out⟩
      case measure => simp [intOf]; omega

end
end Go.Proofs.Ytfmbadhiflaldaa
